import Derived.Test.YtfjmgccbpiolhaaGreatDoorCards
import Derived.Test.YtfjmgccbpiolhaaGreatDoorTie
import Derived.Test.YtfjmgccbpiolhaaGreatDoorMW27
import Derived.Test.YtfjmgccbpiolhaaGreatDoorZWG3
import GoSem.PinnedTables
import Derived.WalkKit
import Derived.ProofKit
import Derived.OpenShut
import Derived.ShutString
import Derived.SizedLaws
import Derived.Stop.LaidErr
import Derived.Deep.DeepHandedRow
import Derived.Lib.LaidU8
import Derived.WideKeyArgs
import Derived.WideKeyElems4
namespace Go.Proofs.YtfjmgccbpiolhaaGreatDoor
open Go.ChangeShapes Go.WideShapes Go.ChangeAt Go.RowKit
set_option linter.unusedVariables false

theorem own6 : ownKnob Tryz.prog.godebug = none := by kernel_rfl
theorem laidOut6 : laidOutB Tryz.prog = true := by kernel_rfl
noncomputable def laidWorld6 (os : Os) : World :=
  let w0 := World.holding Tryz.prog os ⟨#[], #[], []⟩
  { w0 with heap := (w0.heap.modify 0 fun
      | .cells _ t frozen => .cells #[.string ⟨#[110, 117, 108, 108]⟩, .string ⟨#[102, 97, 108, 115, 101]⟩, .string ⟨#[116, 114, 117, 101]⟩] t frozen
      | o => o) }
theorem laid_met6 (os : Os) (args : Array Value) : laidMet Tryz.prog [("hallmark/writer.words", Rows.laid_hallmark_writer_words)] ((laidWorld6 os).forCall (fun _ _ => 0) ⟨#[], args, []⟩).memory :=
  laidMet_of_run' 8 (by kernel_rfl) (by kernel_rfl)
theorem gWords : Tryz.prog.globalNamed "hallmark/writer.words" = some 0 := by kernel_rfl
theorem gWordsT : (Tryz.prog.globals[0]?).map (·.type) = some 216 := by kernel_rfl
theorem cells9w : Tryz.prog.cellsOf 9 = 1 := by kernel_rfl
theorem word_cell {W : World} {cs : Array Value} {fuel : Nat} {p : List MemPlace} {ds : List (DataW Unit)} (hv : W.var? Tryz.prog "hallmark/writer.words" = some cs) (ht : DataW.trod (fun _ => ()) Tryz.prog W 0 (fun _ => true) false fuel 216 cs.toList = some (.agg ds, p)) (i : Nat) (hi : i < 3) (bs : List UInt8) (hd : ds[i]? = some (.lit (.string bs))) :
    W.cell? ⟨0, i, none⟩ = some (.string ⟨bs.toArray⟩) := by
  obtain ⟨fuel', d, q, h1, h2⟩ := Lib.array_elem Tryz.underlying216 ht i hi
  rw [hd] at h1
  obtain rfl := Option.some.inj h1
  rw [cells9w] at h2
  obtain ⟨s, hs, hds, _⟩ := DataW.trod_string Tryz.underlying9 h2
  have e1 := congrArg Prod.fst hds
  simp only [DataW.lit.injEq, Lit.string.injEq] at e1
  have e2 : cs.toList[i]? = some (.string s) := by
    have := congrArg (·[0]?) hs
    simpa [List.getElem?_take, List.getElem?_drop] using this
  have e3 : cs[i]? = some (.string s) := by simpa using e2
  have e4 : s = ⟨bs.toArray⟩ := by
    obtain ⟨⟨x⟩⟩ := s
    simp at e1
    rw [e1]
  rw [World.var?_cell gWords hv i, e3, e4]
theorem words_of_laid {W : World} (h : laidMetH Tryz.prog [("hallmark/writer.words", Rows.laid_hallmark_writer_words)] W) : WordsAt W := by
  have h' : laidMet Tryz.prog [("hallmark/writer.words", Rows.laid_hallmark_writer_words)] W := h
  obtain ⟨g, t, cs, fuel, p, hg, hgt, hv, ht⟩ := Lib.laidMet.reads h' (List.mem_cons_self ..)
  obtain rfl : g = 0 := (Option.some.inj (gWords.symm.trans hg)).symm
  obtain rfl : t = 216 := (Option.some.inj (gWordsT.symm.trans hgt)).symm
  exact ⟨word_cell hv ht 0 (by decide) _ rfl, word_cell hv ht 1 (by decide) _ rfl, word_cell hv ht 2 (by decide) _ rfl⟩
end Go.Proofs.YtfjmgccbpiolhaaGreatDoor
