import Derived.Test.YtdjoelhiahpmlaaGreatM25
import Derived.Deep.Cut
namespace Go.Proofs.YtdjoelhiahpmlaaGreat
open Go.RowKit Go.Shelf Go.Sort
set_option linter.unusedVariables false
set_option linter.unusedSimpArgs false
attribute [local go_sem] Oper.semAt_some
theorem or64_kv0 : bits .or .i64 (kvL []) 1 = kvL [true] := by decide +kernel
theorem or64_kv1 : ∀ a0 : Bool, bits .or .i64 (kvL [a0]) 2 = kvL [a0, true] := by decide +kernel
theorem or64_kv2 : ∀ a0 a1 : Bool, bits .or .i64 (kvL [a0, a1]) 4 = kvL [a0, a1, true] := by decide +kernel
theorem or64_kv3 : ∀ a0 a1 a2 : Bool, bits .or .i64 (kvL [a0, a1, a2]) 8 = kvL [a0, a1, a2, true] := by decide +kernel
theorem or64_kv4 : ∀ a0 a1 a2 a3 : Bool, bits .or .i64 (kvL [a0, a1, a2, a3]) 16 = kvL [a0, a1, a2, a3, true] := by decide +kernel
theorem or64_kv5 : ∀ a0 a1 a2 a3 a4 : Bool, bits .or .i64 (kvL [a0, a1, a2, a3, a4]) 32 = kvL [a0, a1, a2, a3, a4, true] := by decide +kernel
theorem or64_kv6 : ∀ a0 a1 a2 a3 a4 a5 : Bool, bits .or .i64 (kvL [a0, a1, a2, a3, a4, a5]) 64 = kvL [a0, a1, a2, a3, a4, a5, true] := by decide +kernel
end Go.Proofs.YtdjoelhiahpmlaaGreat
