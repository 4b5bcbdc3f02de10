import Derived.Test.YtkaaleeldpghoaaGreatZSK1
import Derived.Deep.Cut
namespace Go.Proofs.YtkaaleeldpghoaaGreat
open Go.RowKit Go.Shelf Go.Sort
set_option linter.unusedVariables false
set_option linter.unusedSimpArgs false
attribute [local go_sem] Oper.semAt_some
theorem or64_kv0 : bits .or .i64 (kvL []) 1 = kvL [true] := by decide +kernel
theorem or64_kv1 : ∀ a0 : Bool, bits .or .i64 (kvL [a0]) 2 = kvL [a0, true] := by decide +kernel
theorem or64_kv2 : ∀ a0 a1 : Bool, bits .or .i64 (kvL [a0, a1]) 4 = kvL [a0, a1, true] := by decide +kernel
theorem or64_kv3 : ∀ a0 a1 a2 : Bool, bits .or .i64 (kvL [a0, a1, a2]) 8 = kvL [a0, a1, a2, true] := by decide +kernel
theorem or64_kv4 : ∀ a0 a1 a2 a3 : Bool, bits .or .i64 (kvL [a0, a1, a2, a3]) 16 = kvL [a0, a1, a2, a3, true] := by decide +kernel
theorem or64_kv5 : ∀ a0 a1 a2 a3 a4 : Bool, bits .or .i64 (kvL [a0, a1, a2, a3, a4]) 32 = kvL [a0, a1, a2, a3, a4, true] := by decide +kernel
theorem or64_kv6 : ∀ a0 a1 a2 a3 a4 a5 : Bool, bits .or .i64 (kvL [a0, a1, a2, a3, a4, a5]) 64 = kvL [a0, a1, a2, a3, a4, a5, true] := by decide +kernel
set_option maxRecDepth 100000 in
set_option maxHeartbeats 6400000 in
theorem rKinds_step (b0 b1 b2 b3 : Bool) (no : Option Addr) (nn nc : Nat) (b5 : Bool) (xo : Option Addr) (nx xc : Nat) (ao : Option Addr) (NA ac : Nat) (oo : Option Addr) (NO oc : Nat) (w : World) (z1 : nn ≤ 140737488355328) (z2 : nx ≤ 140737488355328) (z3 : NA ≤ 140737488355328) (z4 : NO ≤ 140737488355328) :
    Calls Tryz.prog 14 #[.agg #[.bool b0, .bool b1, .bool b2, .bool b3, .slice no nn nc, .bool b5, .slice xo nx xc, .slice ao NA ac, .slice oo NO oc]] w fun e w' => e = .returned (.int .i64 (kdV b0 b1 b2 b3 b5 nn nx NA NO)) ∧ Below w.heap.size w w' := by
  obtain ⟨R, hR⟩ : ∃ R, kdV b0 b1 b2 b3 b5 nn nx NA NO = R := ⟨_, rfl⟩
  have HR0 := Hid.mk hR.symm
  rw [hR]
  clear hR
  have HX0 := Hid.mk (tbx_new w (.bool b0) (.bool b1) (.bool b2) (.bool b3) (.slice no nn nc) (.bool b5) (.slice xo nx xc) (.slice ao NA ac) (.slice oo NO oc))
  obtain ⟨W0, hW0⟩ : ∃ W0, w.alloc (.cells #[.bool b0, .bool b1, .bool b2, .bool b3, .slice no nn nc, .bool b5, .slice xo nx xc, .slice ao NA ac, .slice oo NO oc] 27) = W0 := ⟨_, rfl⟩
  rw [hW0] at HX0
  obtain ⟨_, c0, c1, c2, c3, c4, c5, c6, c7, c8, _⟩ := HX0.out
  cases b0 with
  | true =>
    go_enter Tryz.func14, Tryz.ntmps14
    go_wp2_with fail
    go_ret
    exact ⟨by rw [HR0.out]; rfl, HX0.out.below⟩
  | false =>
    have HG : Hid (R = kvL [b1, b2, b3, (decide (0 < nn)), (b5 || decide (0 < nx)), (decide (0 < NA)), (decide (0 < NO))]) := HR0.out
    clear HR0
    go_enter Tryz.func14, Tryz.ntmps14
    go_upto_if 7 with fail
    go_cut [3] from 4 (fun s3 wx => s3 = .int .i64 (kvL [b1]) ∧ wx = W0)
    case first =>
      cases b1 with
      | false =>
        go_wp2_with fail
        go_meet
        exact ⟨by first | (rw [no_kv0 ]; done) | (rw [no_kv0 ]; rfl), by first | rfl | trivial | assumption⟩
      | true =>
        go_wp2_with fail
        go_meet
        exact ⟨by first | (rw [show kvL [true] = bits .or .i64 (kvL []) 1 from (or64_kv0 ).symm]; done) | (rw [show kvL [true] = bits .or .i64 (kvL []) 1 from (or64_kv0 ).symm]; rfl), by first | rfl | trivial | assumption⟩
    case rest =>
      obtain ⟨rfl, hwc⟩ := hcut
      obtain rfl := hwc.symm
      go_upto_if 11 with fail
      go_cut [3] from 4 (fun s3 wx => s3 = .int .i64 (kvL [b1, b2]) ∧ wx = W0)
      case first =>
        cases b2 with
        | false =>
          go_wp2_with fail
          go_meet
          exact ⟨by first | (rw [no_kv1 (b1)]; done) | (rw [no_kv1 (b1)]; rfl), by first | rfl | trivial | assumption⟩
        | true =>
          go_wp2_with fail
          go_meet
          exact ⟨by first | (rw [show kvL [b1, true] = bits .or .i64 (kvL [b1]) 2 from (or64_kv1 (b1)).symm]; done) | (rw [show kvL [b1, true] = bits .or .i64 (kvL [b1]) 2 from (or64_kv1 (b1)).symm]; rfl), by first | rfl | trivial | assumption⟩
      case rest =>
        obtain ⟨rfl, hwc⟩ := hcut
        obtain rfl := hwc.symm
        go_upto_if 15 with fail
        go_cut [3] from 4 (fun s3 wx => s3 = .int .i64 (kvL [b1, b2, b3]) ∧ wx = W0)
        case first =>
          cases b3 with
          | false =>
            go_wp2_with fail
            go_meet
            exact ⟨by first | (rw [no_kv2 (b1) (b2)]; done) | (rw [no_kv2 (b1) (b2)]; rfl), by first | rfl | trivial | assumption⟩
          | true =>
            go_wp2_with fail
            go_meet
            exact ⟨by first | (rw [show kvL [b1, b2, true] = bits .or .i64 (kvL [b1, b2]) 4 from (or64_kv2 (b1) (b2)).symm]; done) | (rw [show kvL [b1, b2, true] = bits .or .i64 (kvL [b1, b2]) 4 from (or64_kv2 (b1) (b2)).symm]; rfl), by first | rfl | trivial | assumption⟩
        case rest =>
          obtain ⟨rfl, hwc⟩ := hcut
          obtain rfl := hwc.symm
          go_upto_if 21 with fail
          go_cut [3] from 4 (fun s3 wx => s3 = .int .i64 (kvL [b1, b2, b3, (decide (0 < nn))]) ∧ wx = W0)
          case first =>
            by_cases hn : 0 < nn
            · have hn1 : (0 : Int) < (nn : Int) := by omega
              go_wp2_with fail
              go_meet
              exact ⟨by first | (rw [decide_eq_true hn, show kvL [b1, b2, b3, true] = bits .or .i64 (kvL [b1, b2, b3]) 8 from (or64_kv3 (b1) (b2) (b3)).symm]; done) | (rw [decide_eq_true hn, show kvL [b1, b2, b3, true] = bits .or .i64 (kvL [b1, b2, b3]) 8 from (or64_kv3 (b1) (b2) (b3)).symm]; rfl), by first | rfl | trivial | assumption⟩
            · have hn1 : ¬ (0 : Int) < (nn : Int) := by omega
              go_wp2_with fail
              go_meet
              exact ⟨by first | (rw [decide_eq_false hn, no_kv3 (b1) (b2) (b3)]; done) | (rw [decide_eq_false hn, no_kv3 (b1) (b2) (b3)]; rfl), by first | rfl | trivial | assumption⟩
          case rest =>
            obtain ⟨rfl, hwc⟩ := hcut
            obtain rfl := hwc.symm
            cases b5 with
            | true =>
              go_upto_if 31 with fail
              go_cut [3] from 4 (fun s3 wx => s3 = .int .i64 (kvL [b1, b2, b3, (decide (0 < nn)), (true || decide (0 < nx))]) ∧ wx = W0)
              case first =>
                go_wp2_with fail
                go_meet
                exact ⟨by first | (rw [Bool.true_or, show kvL [b1, b2, b3, (decide (0 < nn)), true] = bits .or .i64 (kvL [b1, b2, b3, (decide (0 < nn))]) 16 from (or64_kv4 (b1) (b2) (b3) ((decide (0 < nn)))).symm]; done) | (rw [Bool.true_or, show kvL [b1, b2, b3, (decide (0 < nn)), true] = bits .or .i64 (kvL [b1, b2, b3, (decide (0 < nn))]) 16 from (or64_kv4 (b1) (b2) (b3) ((decide (0 < nn)))).symm]; rfl), by first | rfl | trivial | assumption⟩
              case rest =>
                obtain ⟨rfl, hwc⟩ := hcut
                obtain rfl := hwc.symm
                go_upto_if 37 with fail
                go_cut [3] from 4 (fun s3 wx => s3 = .int .i64 (kvL [b1, b2, b3, (decide (0 < nn)), (true || decide (0 < nx)), (decide (0 < NA))]) ∧ wx = W0)
                case first =>
                  by_cases hn : 0 < NA
                  · have hn1 : (0 : Int) < (NA : Int) := by omega
                    go_wp2_with fail
                    go_meet
                    exact ⟨by first | (rw [decide_eq_true hn, show kvL [b1, b2, b3, (decide (0 < nn)), (true || decide (0 < nx)), true] = bits .or .i64 (kvL [b1, b2, b3, (decide (0 < nn)), (true || decide (0 < nx))]) 32 from (or64_kv5 (b1) (b2) (b3) ((decide (0 < nn))) ((true || decide (0 < nx)))).symm]; done) | (rw [decide_eq_true hn, show kvL [b1, b2, b3, (decide (0 < nn)), (true || decide (0 < nx)), true] = bits .or .i64 (kvL [b1, b2, b3, (decide (0 < nn)), (true || decide (0 < nx))]) 32 from (or64_kv5 (b1) (b2) (b3) ((decide (0 < nn))) ((true || decide (0 < nx)))).symm]; rfl), by first | rfl | trivial | assumption⟩
                  · have hn1 : ¬ (0 : Int) < (NA : Int) := by omega
                    go_wp2_with fail
                    go_meet
                    exact ⟨by first | (rw [decide_eq_false hn, no_kv5 (b1) (b2) (b3) ((decide (0 < nn))) ((true || decide (0 < nx)))]; done) | (rw [decide_eq_false hn, no_kv5 (b1) (b2) (b3) ((decide (0 < nn))) ((true || decide (0 < nx)))]; rfl), by first | rfl | trivial | assumption⟩
                case rest =>
                  obtain ⟨rfl, hwc⟩ := hcut
                  obtain rfl := hwc.symm
                  go_upto_if 43 with fail
                  go_cut [3] from 4 (fun s3 wx => s3 = .int .i64 (kvL [b1, b2, b3, (decide (0 < nn)), (true || decide (0 < nx)), (decide (0 < NA)), (decide (0 < NO))]) ∧ wx = W0)
                  case first =>
                    by_cases hn : 0 < NO
                    · have hn1 : (0 : Int) < (NO : Int) := by omega
                      go_wp2_with fail
                      go_meet
                      exact ⟨by first | (rw [decide_eq_true hn, show kvL [b1, b2, b3, (decide (0 < nn)), (true || decide (0 < nx)), (decide (0 < NA)), true] = bits .or .i64 (kvL [b1, b2, b3, (decide (0 < nn)), (true || decide (0 < nx)), (decide (0 < NA))]) 64 from (or64_kv6 (b1) (b2) (b3) ((decide (0 < nn))) ((true || decide (0 < nx))) ((decide (0 < NA)))).symm]; done) | (rw [decide_eq_true hn, show kvL [b1, b2, b3, (decide (0 < nn)), (true || decide (0 < nx)), (decide (0 < NA)), true] = bits .or .i64 (kvL [b1, b2, b3, (decide (0 < nn)), (true || decide (0 < nx)), (decide (0 < NA))]) 64 from (or64_kv6 (b1) (b2) (b3) ((decide (0 < nn))) ((true || decide (0 < nx))) ((decide (0 < NA)))).symm]; rfl), by first | rfl | trivial | assumption⟩
                    · have hn1 : ¬ (0 : Int) < (NO : Int) := by omega
                      go_wp2_with fail
                      go_meet
                      exact ⟨by first | (rw [decide_eq_false hn, no_kv6 (b1) (b2) (b3) ((decide (0 < nn))) ((true || decide (0 < nx))) ((decide (0 < NA)))]; done) | (rw [decide_eq_false hn, no_kv6 (b1) (b2) (b3) ((decide (0 < nn))) ((true || decide (0 < nx))) ((decide (0 < NA)))]; rfl), by first | rfl | trivial | assumption⟩
                  case rest =>
                    obtain ⟨rfl, hwc⟩ := hcut
                    obtain rfl := hwc.symm
                    go_wp2_with fail
                    go_ret
                    exact ⟨by first | (rw [HG.out]; rfl) | (rw [HG.out]; done), HX0.out.below⟩
            | false =>
              go_upto_if 31 with fail
              go_cut [3] from 4 (fun s3 wx => s3 = .int .i64 (kvL [b1, b2, b3, (decide (0 < nn)), (false || decide (0 < nx))]) ∧ wx = W0)
              case first =>
                by_cases hn : 0 < nx
                · have hn1 : (0 : Int) < (nx : Int) := by omega
                  go_wp2_with fail
                  go_meet
                  exact ⟨by first | (rw [Bool.false_or, decide_eq_true hn, show kvL [b1, b2, b3, (decide (0 < nn)), true] = bits .or .i64 (kvL [b1, b2, b3, (decide (0 < nn))]) 16 from (or64_kv4 (b1) (b2) (b3) ((decide (0 < nn)))).symm]; done) | (rw [Bool.false_or, decide_eq_true hn, show kvL [b1, b2, b3, (decide (0 < nn)), true] = bits .or .i64 (kvL [b1, b2, b3, (decide (0 < nn))]) 16 from (or64_kv4 (b1) (b2) (b3) ((decide (0 < nn)))).symm]; rfl), by first | rfl | trivial | assumption⟩
                · have hn1 : ¬ (0 : Int) < (nx : Int) := by omega
                  go_wp2_with fail
                  go_meet
                  exact ⟨by first | (rw [Bool.false_or, decide_eq_false hn, no_kv4 (b1) (b2) (b3) ((decide (0 < nn)))]; done) | (rw [Bool.false_or, decide_eq_false hn, no_kv4 (b1) (b2) (b3) ((decide (0 < nn)))]; rfl), by first | rfl | trivial | assumption⟩
              case rest =>
                obtain ⟨rfl, hwc⟩ := hcut
                obtain rfl := hwc.symm
                go_upto_if 37 with fail
                go_cut [3] from 4 (fun s3 wx => s3 = .int .i64 (kvL [b1, b2, b3, (decide (0 < nn)), (false || decide (0 < nx)), (decide (0 < NA))]) ∧ wx = W0)
                case first =>
                  by_cases hn : 0 < NA
                  · have hn1 : (0 : Int) < (NA : Int) := by omega
                    go_wp2_with fail
                    go_meet
                    exact ⟨by first | (rw [decide_eq_true hn, show kvL [b1, b2, b3, (decide (0 < nn)), (false || decide (0 < nx)), true] = bits .or .i64 (kvL [b1, b2, b3, (decide (0 < nn)), (false || decide (0 < nx))]) 32 from (or64_kv5 (b1) (b2) (b3) ((decide (0 < nn))) ((false || decide (0 < nx)))).symm]; done) | (rw [decide_eq_true hn, show kvL [b1, b2, b3, (decide (0 < nn)), (false || decide (0 < nx)), true] = bits .or .i64 (kvL [b1, b2, b3, (decide (0 < nn)), (false || decide (0 < nx))]) 32 from (or64_kv5 (b1) (b2) (b3) ((decide (0 < nn))) ((false || decide (0 < nx)))).symm]; rfl), by first | rfl | trivial | assumption⟩
                  · have hn1 : ¬ (0 : Int) < (NA : Int) := by omega
                    go_wp2_with fail
                    go_meet
                    exact ⟨by first | (rw [decide_eq_false hn, no_kv5 (b1) (b2) (b3) ((decide (0 < nn))) ((false || decide (0 < nx)))]; done) | (rw [decide_eq_false hn, no_kv5 (b1) (b2) (b3) ((decide (0 < nn))) ((false || decide (0 < nx)))]; rfl), by first | rfl | trivial | assumption⟩
                case rest =>
                  obtain ⟨rfl, hwc⟩ := hcut
                  obtain rfl := hwc.symm
                  go_upto_if 43 with fail
                  go_cut [3] from 4 (fun s3 wx => s3 = .int .i64 (kvL [b1, b2, b3, (decide (0 < nn)), (false || decide (0 < nx)), (decide (0 < NA)), (decide (0 < NO))]) ∧ wx = W0)
                  case first =>
                    by_cases hn : 0 < NO
                    · have hn1 : (0 : Int) < (NO : Int) := by omega
                      go_wp2_with fail
                      go_meet
                      exact ⟨by first | (rw [decide_eq_true hn, show kvL [b1, b2, b3, (decide (0 < nn)), (false || decide (0 < nx)), (decide (0 < NA)), true] = bits .or .i64 (kvL [b1, b2, b3, (decide (0 < nn)), (false || decide (0 < nx)), (decide (0 < NA))]) 64 from (or64_kv6 (b1) (b2) (b3) ((decide (0 < nn))) ((false || decide (0 < nx))) ((decide (0 < NA)))).symm]; done) | (rw [decide_eq_true hn, show kvL [b1, b2, b3, (decide (0 < nn)), (false || decide (0 < nx)), (decide (0 < NA)), true] = bits .or .i64 (kvL [b1, b2, b3, (decide (0 < nn)), (false || decide (0 < nx)), (decide (0 < NA))]) 64 from (or64_kv6 (b1) (b2) (b3) ((decide (0 < nn))) ((false || decide (0 < nx))) ((decide (0 < NA)))).symm]; rfl), by first | rfl | trivial | assumption⟩
                    · have hn1 : ¬ (0 : Int) < (NO : Int) := by omega
                      go_wp2_with fail
                      go_meet
                      exact ⟨by first | (rw [decide_eq_false hn, no_kv6 (b1) (b2) (b3) ((decide (0 < nn))) ((false || decide (0 < nx))) ((decide (0 < NA)))]; done) | (rw [decide_eq_false hn, no_kv6 (b1) (b2) (b3) ((decide (0 < nn))) ((false || decide (0 < nx))) ((decide (0 < NA)))]; rfl), by first | rfl | trivial | assumption⟩
                  case rest =>
                    obtain ⟨rfl, hwc⟩ := hcut
                    obtain rfl := hwc.symm
                    go_wp2_with fail
                    go_ret
                    exact ⟨by first | (rw [HG.out]; rfl) | (rw [HG.out]; done), HX0.out.below⟩
theorem w_rKinds (h : Nat) (T : TT) (v : Value) (w : World) (hI : InT w h T v) : Calls Tryz.prog 14 #[v] w fun e w' => e = .returned (.int .i64 (kdN T)) ∧ Below w.heap.size w w' := by
  cases h with
  | zero => exact hI.elim
  | succ h =>
    obtain ⟨no, nc, xo, xc, ao, ac, oo, oc, rfl, _, ⟨a5, a6, a7, a8⟩, _⟩ := hI
    exact rKinds_step T.all T.nul T.fls T.tru no _ nc T.any xo _ xc ao _ ac oo _ oc w a5 a6 a7 a8
end Go.Proofs.YtkaaleeldpghoaaGreat
