import Derived.Test.YtfcbeohkhljboaaDoorM6
import Derived.Test.YtfcbeohkhljboaaDoorM7
import Derived.Test.YtfcbeohkhljboaaDoorM8
namespace Go.Proofs.YtfcbeohkhljboaaDoor
open Go.RowKit
set_option linter.unusedVariables false
set_option linter.unusedSimpArgs false

theorem r_formed_size {s : ByteArray} (h : Pl.formed s.data.toList = true) (f : Nat) (hf : f = if Pl.neg s.data.toList then 1 else 0) : f < s.size := by
  have h1 := Pl.canon_len (Pl.formed_canon h)
  rw [Pl.body_drop s f hf] at h1
  simp at h1
  omega

theorem w_read (s : ByteArray) (w : World) (hs : s.size * 8 ≤ 140737488355328) (h : Pl.formed s.data.toList = true) :
    Calls Tryd.prog 38 #[.string s] w fun e w' => ∃ v, e = .returned (.agg #[.bool (Pl.neg s.data.toList), v]) ∧ Nums .i64 w' v (Pl.trimN (Pl.digs (Pl.body s.data.toList))) ∧ Below w.heap.size w w' := by
  obtain ⟨f, hf⟩ : ∃ f, f = if Pl.neg s.data.toList then 1 else 0 := ⟨_, rfl⟩
  have hd := (Pl.all_drop s f).1 (by rw [← Pl.body_drop s f hf]; exact Pl.canon_dig (Pl.formed_canon h))
  have hn : Pl.neg s.data.toList = decide (f = 1) := by rw [hf]; cases Pl.neg s.data.toList <;> rfl
  refine (w_read_f s w hs f (by rw [hf]; split <;> omega) hf (r_formed_size h f hf) hd _ rfl).mono ?_
  rintro e w1 ⟨v, rfl, hnum, hb⟩
  rw [← Pl.body_drop s f hf] at hnum ⊢
  rw [← hn, Pl.neg_trim h]
  exact ⟨v, rfl, hnum, hb⟩

end Go.Proofs.YtfcbeohkhljboaaDoor
