import Derived.Test.YtfjmgccbpiolhaaGreatDoorCards
import Derived.Test.YtfjmgccbpiolhaaGreatDoorTie
import Derived.Test.YtfjmgccbpiolhaaGreatDoorM11
import Derived.Test.YtfjmgccbpiolhaaGreatDoorM31
import Derived.Test.YtfjmgccbpiolhaaGreatDoorM29
import GoSem.PinnedTables
import Derived.WalkKit
import Derived.ProofKit
import Derived.OpenShut
import Derived.ShutString
import Derived.SizedLaws
import Derived.Stop.LaidErr
import Derived.Deep.DeepHandedRow
import Derived.Lib.LaidU8
import Derived.WideKeyArgs
import Derived.WideKeyElems4
namespace Go.Proofs.YtfjmgccbpiolhaaGreatDoor
open Go.ChangeShapes Go.WideShapes Go.ChangeAt Go.RowKit
set_option linter.unusedVariables false

theorem own9 : ownKnob Tryz.prog.godebug = none := by kernel_rfl
noncomputable def low9 : Nat := (World.holding Tryz.prog default ⟨#[], #[], []⟩).heap.size

noncomputable def laidWorld9 (os : Os) : World :=
  let w0 := World.holding Tryz.prog os ⟨#[.cells #[.string ⟨#[105, 110, 118, 97, 108, 105, 100, 32, 115, 121, 110, 116, 97, 120]⟩] 314, .cells #[.string ⟨#[118, 97, 108, 117, 101, 32, 111, 117, 116, 32, 111, 102, 32, 114, 97, 110, 103, 101]⟩] 314], #[], []⟩
  { w0 with heap := ((((((((w0.heap.modify 2 fun
      | .cells _ t frozen => .cells (Pinned.utf8FirstZ.map fun (n : Nat) => Value.int .u8 (n : Int)).toArray t frozen
      | o => o).modify 3 fun
      | .cells _ t frozen => .cells #[.int .u8 128, .int .u8 191, .int .u8 160, .int .u8 191, .int .u8 128, .int .u8 159, .int .u8 144, .int .u8 191, .int .u8 128, .int .u8 143, .int .u8 0, .int .u8 0, .int .u8 0, .int .u8 0, .int .u8 0, .int .u8 0, .int .u8 0, .int .u8 0, .int .u8 0, .int .u8 0, .int .u8 0, .int .u8 0, .int .u8 0, .int .u8 0, .int .u8 0, .int .u8 0, .int .u8 0, .int .u8 0, .int .u8 0, .int .u8 0, .int .u8 0, .int .u8 0] t frozen
      | o => o).modify 4 fun
      | .cells _ t frozen => .cells #[.iface 312 (.pointer (some ⟨low9, 0, none⟩))] t frozen
      | o => o).modify 5 fun
      | .cells _ t frozen => .cells #[.iface 312 (.pointer (some ⟨low9 + 1, 0, none⟩))] t frozen
      | o => o).modify 6 fun
      | .cells _ t frozen => .cells #[.int .u64 1, .int .u64 10, .int .u64 100, .int .u64 1000, .int .u64 10000, .int .u64 100000, .int .u64 1000000, .int .u64 10000000, .int .u64 100000000, .int .u64 1000000000, .int .u64 10000000000, .int .u64 100000000000, .int .u64 1000000000000, .int .u64 10000000000000, .int .u64 100000000000000, .int .u64 1000000000000000, .int .u64 10000000000000000, .int .u64 100000000000000000, .int .u64 1000000000000000000, .int .u64 10000000000000000000] t frozen
      | o => o).modify 7 fun
      | .cells _ t frozen => .cells #[.int .u8 0, .int .u8 1, .int .u8 28, .int .u8 2, .int .u8 29, .int .u8 14, .int .u8 24, .int .u8 3, .int .u8 30, .int .u8 22, .int .u8 20, .int .u8 15, .int .u8 25, .int .u8 17, .int .u8 4, .int .u8 8, .int .u8 31, .int .u8 27, .int .u8 13, .int .u8 23, .int .u8 21, .int .u8 19, .int .u8 16, .int .u8 7, .int .u8 26, .int .u8 12, .int .u8 18, .int .u8 6, .int .u8 11, .int .u8 5, .int .u8 10, .int .u8 9] t frozen
      | o => o).modify 8 fun
      | .cells _ t frozen => .cells #[.int .u8 0, .int .u8 1, .int .u8 56, .int .u8 2, .int .u8 57, .int .u8 49, .int .u8 28, .int .u8 3, .int .u8 61, .int .u8 58, .int .u8 42, .int .u8 50, .int .u8 38, .int .u8 29, .int .u8 17, .int .u8 4, .int .u8 62, .int .u8 47, .int .u8 59, .int .u8 36, .int .u8 45, .int .u8 43, .int .u8 51, .int .u8 22, .int .u8 53, .int .u8 39, .int .u8 33, .int .u8 30, .int .u8 24, .int .u8 18, .int .u8 12, .int .u8 5, .int .u8 63, .int .u8 55, .int .u8 48, .int .u8 27, .int .u8 60, .int .u8 41, .int .u8 37, .int .u8 16, .int .u8 46, .int .u8 35, .int .u8 44, .int .u8 21, .int .u8 52, .int .u8 32, .int .u8 23, .int .u8 11, .int .u8 54, .int .u8 26, .int .u8 40, .int .u8 15, .int .u8 34, .int .u8 20, .int .u8 31, .int .u8 10, .int .u8 25, .int .u8 14, .int .u8 19, .int .u8 9, .int .u8 13, .int .u8 8, .int .u8 7, .int .u8 6] t frozen
      | o => o).modify 0 fun
      | .cells _ t frozen => .cells #[.string ⟨#[110, 117, 108, 108]⟩, .string ⟨#[102, 97, 108, 115, 101]⟩, .string ⟨#[116, 114, 117, 101]⟩] t frozen
      | o => o) }
theorem laid_met9 (os : Os) (args : Array Value) : laidMet Tryz.prog Rows.wholeBytesUptoRow.laid ((laidWorld9 os).forCall (fun _ _ => 0) ⟨#[], args, []⟩).memory :=
  laidMet_of_run' 8 (by kernel_rfl) (by kernel_rfl)

theorem gSyn : Tryz.prog.globalNamed "strconv.ErrSyntax" = some 4 := by kernel_rfl
theorem gSynType : (Tryz.prog.globals[4]?).map (·.type) = some 113 := by kernel_rfl
theorem cellsES : Tryz.prog.cellsOf 314 = 1 := by kernel_rfl
theorem cells9 : Tryz.prog.cellsOf 9 = 1 := by kernel_rfl
theorem star : "*" ++ "errors.errorString" = "*errors.errorString" := by decide
theorem rowES (u : TypeId) (h : Tryz.prog.typeName? 3 u = some "*errors.errorString") : u = 312 :=
  typeName_ptr_named (nm := "errors.errorString") (by rw [star]; kernel_rfl) (by kernel_rfl) (by decide) u (by rw [star]; exact h)
theorem errIn {W : World} (h : laidMetH Tryz.prog Rows.wholeBytesUptoRow.laid W) : ErrIn W := by
  have h' : laidMet Tryz.prog [("math/bits.deBruijn32tab", Rows.laid_math_bits_deBruijn32tab), ("math/bits.deBruijn64tab", Rows.laid_math_bits_deBruijn64tab), ("internal/strconv.uint64pow10", Rows.laid_internal_strconv_uint64pow10), ("unicode/utf8.acceptRanges", Rows.laid_unicode_utf8_acceptRanges), ("strconv.ErrRange", Rows.laid_strconv_ErrRange), ("strconv.ErrSyntax", Rows.laid_strconv_ErrSyntax), ("hallmark/writer.words", Rows.laid_hallmark_writer_words), ("unicode/utf8.first", Rows.laid_unicode_utf8_first)] W := h
  obtain ⟨a, s, hv, _⟩ := laid_sentinel h'.tail.tail.tail.tail.tail gSyn gSynType Tryz.underlying113 rowES Tryz.underlying312 Tryz.underlying314 rfl rfl Tryz.underlying9 cellsES cells9
  exact ⟨_, by simpa using World.var?_cell gSyn hv 0, Or.inr ⟨_, _, rfl⟩⟩
theorem laidOut9 : laidOutB Tryz.prog = true := by kernel_rfl
theorem gWords : Tryz.prog.globalNamed "hallmark/writer.words" = some 0 := by kernel_rfl
theorem gWordsT : (Tryz.prog.globals[0]?).map (·.type) = some 216 := by kernel_rfl
theorem cells9w : Tryz.prog.cellsOf 9 = 1 := by kernel_rfl
theorem word_cell {W : World} {cs : Array Value} {fuel : Nat} {p : List MemPlace} {ds : List (DataW Unit)} (hv : W.var? Tryz.prog "hallmark/writer.words" = some cs) (ht : DataW.trod (fun _ => ()) Tryz.prog W 0 (fun _ => true) false fuel 216 cs.toList = some (.agg ds, p)) (i : Nat) (hi : i < 3) (bs : List UInt8) (hd : ds[i]? = some (.lit (.string bs))) :
    W.cell? ⟨0, i, none⟩ = some (.string ⟨bs.toArray⟩) := by
  obtain ⟨fuel', d, q, h1, h2⟩ := Lib.array_elem Tryz.underlying216 ht i hi
  rw [hd] at h1
  obtain rfl := Option.some.inj h1
  rw [cells9w] at h2
  obtain ⟨s, hs, hds, _⟩ := DataW.trod_string Tryz.underlying9 h2
  have e1 := congrArg Prod.fst hds
  simp only [DataW.lit.injEq, Lit.string.injEq] at e1
  have e2 : cs.toList[i]? = some (.string s) := by
    have := congrArg (·[0]?) hs
    simpa [List.getElem?_take, List.getElem?_drop] using this
  have e3 : cs[i]? = some (.string s) := by simpa using e2
  have e4 : s = ⟨bs.toArray⟩ := by
    obtain ⟨⟨x⟩⟩ := s
    simp at e1
    rw [e1]
  rw [World.var?_cell gWords hv i, e3, e4]
theorem words_of_laid9 {W : World} (h : laidMetH Tryz.prog Rows.wholeBytesUptoRow.laid W) : WordsAt W := by
  have h' : laidMet Tryz.prog [("math/bits.deBruijn32tab", Rows.laid_math_bits_deBruijn32tab), ("math/bits.deBruijn64tab", Rows.laid_math_bits_deBruijn64tab), ("internal/strconv.uint64pow10", Rows.laid_internal_strconv_uint64pow10), ("unicode/utf8.acceptRanges", Rows.laid_unicode_utf8_acceptRanges), ("strconv.ErrRange", Rows.laid_strconv_ErrRange), ("strconv.ErrSyntax", Rows.laid_strconv_ErrSyntax), ("hallmark/writer.words", Rows.laid_hallmark_writer_words), ("unicode/utf8.first", Rows.laid_unicode_utf8_first)] W := h
  obtain ⟨g, t, cs, fuel, p, hg, hgt, hv, ht⟩ := Lib.laidMet.reads h'.tail.tail.tail.tail.tail.tail (List.mem_cons_self ..)
  obtain rfl : g = 0 := (Option.some.inj (gWords.symm.trans hg)).symm
  obtain rfl : t = 216 := (Option.some.inj (gWordsT.symm.trans hgt)).symm
  exact ⟨word_cell hv ht 0 (by decide) _ rfl, word_cell hv ht 1 (by decide) _ rfl, word_cell hv ht 2 (by decide) _ rfl⟩
end Go.Proofs.YtfjmgccbpiolhaaGreatDoor
