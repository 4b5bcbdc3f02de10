import Derived.Test.YtohclfgghobldaaGreatDoorM21
import Derived.Deep.AppendLies
import Derived.ArgAppend
import Derived.Test.YtohclfgghobldaaGreatDoorM22
namespace Go.Proofs.YtohclfgghobldaaGreatDoor
open Go.RowKit Go.Shelf
set_option linter.unusedVariables false
set_option linter.unusedSimpArgs false
attribute [local go_sem] Oper.semAt_some

/-- the same, the grown lists named -/
structure P3x (B gb gl lc gg : Nat) (so : Nat → Option Addr) (n sc : Nat → Nat) (v : Value) (w W : World) (so' : Nat → Option Addr) (sc' : Nat → Nat) : Prop where
  below : Below B w W
  le : B ≤ W.heap.size
  ls : ∀ j, j < 4 → gl < W.heap.size ∧ W.cell? ⟨gl, j, none⟩ = some (.slice (so j) (n j) (sc j))
  gs : ∀ j, j < 4 → gg < W.heap.size ∧ W.cell? ⟨gg, j, none⟩ = some (.slice (so' j) (n j + 70) (sc' j))
  bk : BkAt W gb v
  rd : ∀ j, j < 4 → RdM W (so j) j (n j)
  rd' : ∀ j, j < 4 → RdM W (so' j) j (n j + 70)
theorem P3x.keep {B gb gl lc gg : Nat} {so : Nat → Option Addr} {n sc : Nat → Nat} {v : Value} {w W W' : World} {so' : Nat → Option Addr} {sc' : Nat → Nat} (h : P3x B gb gl lc gg so n sc v w W so' sc') (hb : Below W.heap.size W W') : P3x B gb gl lc gg so n sc v w W' so' sc' :=
  ⟨h.below.trans (hb.mono h.le), Nat.le_trans h.le hb.size, fun j hj => ⟨Nat.lt_of_lt_of_le (h.ls j hj).1 hb.size, (hb.cell (p := ⟨gl, j, none⟩) (h.ls j hj).1).trans (h.ls j hj).2⟩, fun j hj => ⟨Nat.lt_of_lt_of_le (h.gs j hj).1 hb.size, (hb.cell (p := ⟨gg, j, none⟩) (h.gs j hj).1).trans (h.gs j hj).2⟩, heap_lowT hb (Array.getElem?_eq_some_iff.1 h.bk).1 h.bk, fun j hj => (h.rd j hj).keep (fun g _ hg => hb.block g hg), fun j hj => (h.rd' j hj).keep (fun g _ hg => hb.block g hg)⟩
theorem P3.open {B gb gl lc : Nat} {so : Nat → Option Addr} {n sc : Nat → Nat} {v : Value} {w W : World} {go : Option Addr} {gc : Nat} (h : P3 B gb gl lc so n sc v w W (.slice go 4 gc)) : ∃ gg so' sc', go = some ⟨gg, 0, none⟩ ∧ 4 ≤ gc ∧ P3x B gb gl lc gg so n sc v w W so' sc' := by
  obtain ⟨so', sc', a, b, c, d, e, f, g⟩ := h.ex
  obtain ⟨g1, e1, _, k1, h1, _⟩ := ownZ_at c (by decide)
  obtain ⟨g2, e2, _, k2, h2, _⟩ := ownZ_at e (by decide)
  have e3 : gl = g1 := by simpa using e1
  subst e3
  refine ⟨g2, so', sc', e2, k2, a, b, fun j hj => ⟨own_ltT c gl rfl, h1 j _ ?_⟩, fun j hj => ⟨own_ltT e g2 (by rw [e2]; rfl), h2 j _ ?_⟩, d, f, g⟩
  · rcases (show j = 0 ∨ j = 1 ∨ j = 2 ∨ j = 3 by omega) with rfl | rfl | rfl | rfl <;> rfl
  · rcases (show j = 0 ∨ j = 1 ∨ j = 2 ∨ j = 3 by omega) with rfl | rfl | rfl | rfl <;> rfl
theorem own_holds {w : World} {B : Nat} {e : TypeId} {size : Nat} {so : Option Addr} {n sc : Nat} {xs : List Value} (h : w.ownsRow B e size (.slice so n sc) n xs) : (so = none → n = 0 ∧ sc = 0) ∧ ∀ b, so = some b → ∀ j u, xs[j]? = some u → w.cell? (b.add j) = some u := by
  rcases h.2 with ⟨e1, e2⟩ | ⟨g', cap', cur, e1, hb, hg, h1, h2, h3, h4⟩
  · simp only [Value.slice.injEq] at e1
    refine ⟨fun _ => ⟨e1.2.1, e1.2.2⟩, fun b hb => ?_⟩
    rw [e1.1] at hb; cases hb
  · simp only [Value.slice.injEq] at e1
    obtain ⟨rfl, _, rfl⟩ := e1
    refine ⟨(fun e => by cases e), fun b hb' j u hu => ?_⟩
    cases hb'
    have hc : w.cell? ⟨g', j, none⟩ = cur[j]? := cell_of_row _ _ _ _ _ _ hg
    have ha : (⟨g', 0, none⟩ : Addr).add j = ⟨g', j, none⟩ := by simp [Addr.add]; intro h; exact h.symm
    rw [ha, hc]
    rw [← h4, List.getElem?_take] at hu
    split at hu
    · rw [← Array.getElem?_toList]; exact hu
    · cases hu

set_option maxRecDepth 100000 in
set_option maxHeartbeats 6400000 in
theorem w_apartTokens (B gb gl lc : Nat) (so : Nat → Option Addr) (n sc : Nat → Nat) (v : Value) (w : World) (L : Nat → List Value) (hap : Ap B gb gl lc so n sc v w w L) (hn : ∀ k, n k ≤ 1048576) :
    Calls Tryz.prog 23 #[.slice (some ⟨gl, 0, none⟩) 4 lc] w fun e W' => e = .returned (.bool true) ∧ BkAt W' gb v ∧ Below B w W' := by
  obtain ⟨i0, hi0', hz0, hz1, hz2⟩ := info_parts Tryz.infoTok
  obtain ⟨i1, hi1', hy0, hy1, hy2⟩ := info_parts Tryz.infoToks
  have HP0 : Hid (P1 B gb gl lc so n sc v w w 0 0) := ⟨L, hap, fun j h => absurd h (Nat.not_lt_zero _), Mks.zero _ _⟩
  have hl4 := (hap.at (k := 0) (by decide)).2
  have HMn := Hid.mk hn
  clear hap hn
  go_enter Tryz.func23, Tryz.ntmps23
  go_wp2_with fail
  go_loopw [3] (fun kv wr => ∃ k : Nat, k ≤ 4 ∧ kv = .int .i64 (k : Int) ∧ Hid (P1 B gb gl lc so n sc v w wr k 0)) (fun kv _ => 4 - (intOf kv).toNat)
  case atStart => exact ⟨0, by decide, rfl, HP0⟩
  case round =>
    clear HP0
    obtain ⟨k, hk, rfl, HP⟩ := hrel
    by_cases hk4 : k < 4
    · have hi1 : (k : Int) < 4 := by omega
      have hi0 : (0 : Int) ≤ (k : Int) := by omega
      have hnk := HMn.out k
      go_wp2_with fail
      go_loopw [4] (fun iv wr => ∃ i : Nat, i ≤ n k ∧ iv = .int .i64 (i : Int) ∧ Hid (P1 B gb gl lc so n sc v w wr k i)) (fun iv _ => n k - (intOf iv).toNat)
      case atStart => exact ⟨0, Nat.zero_le _, rfl, HP⟩
      case round =>
        clear HP
        obtain ⟨i, hi, rfl, HP⟩ := hrel
        have hlc : wr.cell? ⟨gl, k, none⟩ = some (.slice (so k) (n k) (sc k)) := by
          obtain ⟨L, h1, _⟩ := HP.out
          exact (h1.at hk4).1
        by_cases hlt : i < n k
        · have hj1 : (i : Int) < (n k : Int) := by omega
          have hj0 : (0 : Int) ≤ (i : Int) := by omega
          obtain ⟨g, hso, hsc, ⟨y0, y1, y2, y3, d0, d1, d2, d3⟩, hfz⟩ := HP.out.cells hk4 hlt
          have f0 := hfz (i * 4)
          have f1 := hfz (i * 4 + 1)
          have f2 := hfz (i * 4 + 2)
          have f3 := hfz (i * 4 + 3)
          have HSO := Hid.mk hso
          rw [hso] at hlc
          have HM := Hid.mk (fun u => w_markTokens k i u (by omega) (by omega))
          unfold mkA at HM
          have hgl : gl < wr.heap.size := by
            obtain ⟨o, ho, _⟩ := isCells_of_cell hlc
            exact (Array.getElem?_eq_some_iff.1 ho).1
          have hgg : g < wr.heap.size := by
            obtain ⟨o, ho, _⟩ := isCells_of_cell d0
            exact (Array.getElem?_eq_some_iff.1 ho).1
          clear hso hfz
          go_wp2_with fail
          go_region_with (go_at_call 66; refine (HM.out _).mono ?_; rintro e w' ⟨rfl, hbw⟩; have HPW := Hid.mk (HP.out.keep (((Below.refl wr.heap.size wr).drew).trans hbw)); have q0 := (hbw.cell (p := ⟨gl, k, none⟩) hgl).trans hlc; have r0 := (hbw.cell (p := ⟨g, i * 4, none⟩) hgg).trans d0; have r1 := (hbw.cell (p := ⟨g, i * 4 + 1, none⟩) hgg).trans d1; have r2 := (hbw.cell (p := ⟨g, i * 4 + 2, none⟩) hgg).trans d2; have r3 := (hbw.cell (p := ⟨g, i * 4 + 3, none⟩) hgg).trans d3; have z0 := (hbw.frozen (p := ⟨g, i * 4, none⟩) hgg).trans f0; have z1 := (hbw.frozen (p := ⟨g, i * 4 + 1, none⟩) hgg).trans f1; have z2 := (hbw.frozen (p := ⟨g, i * 4 + 2, none⟩) hgg).trans f2; have z3 := (hbw.frozen (p := ⟨g, i * 4 + 3, none⟩) hgg).trans f3)
          all_goals
            go_wp2_with fail
            go_roundw
            case rel => exact ⟨i + 1, by omega, by go_num, HPW.out.mark hk4 hlt HSO.out⟩
            case measure => simp [intOf]; omega
        · have hj1 : ¬ (i : Int) < (n k : Int) := by omega
          obtain rfl : i = n k := by omega
          have HP2 := Hid.mk HP.out.up
          clear HP
          go_wp2_with fail
          go_roundw
          case rel => exact ⟨k + 1, by omega, by go_num, HP2⟩
          case measure => simp [intOf]; omega
    · have hi1 : ¬ (k : Int) < 4 := by omega
      obtain rfl : k = 4 := by omega
      have HP2 := Hid.mk HP.out.done
      clear HP
      go_wp2_with fail
      go_loopw [5, 6] (fun gsv kv wr => ∃ (k : Nat) (go : Option Addr) (gc : Nat), k ≤ 4 ∧ gsv = .slice go k gc ∧ kv = .int .i64 (k : Int) ∧ Hid (P2 B gb gl lc so n sc v w wr k (.slice go k gc))) (fun _ kv _ => 4 - (intOf kv).toNat)
      case atStart => exact ⟨0, none, 0, by decide, rfl, rfl, HP2⟩
      case round =>
        clear HP2
        obtain ⟨k, go, gc, hk, rfl, rfl, HP⟩ := hrel
        by_cases hk4 : k < 4
        · have hi1 : (k : Int) < 4 := by omega
          have hi0 : (0 : Int) ≤ (k : Int) := by omega
          have hnk := HMn.out k
          have HPi : Hid (P2i B gb gl lc so n sc v w wr k 0 (.slice go k gc) (.slice (so k) (n k) (sc k))) := by
            rcases HP.out with ⟨_, h⟩ | ⟨h, _⟩
            · exact h
            · omega
          have hlc : wr.cell? ⟨gl, k, none⟩ = some (.slice (so k) (n k) (sc k)) := by
            obtain ⟨so', sc', L, L7, h1, _⟩ := HPi.out.ex
            exact h1.at hk4
          clear HP
          go_wp2_with fail
          clear hlc
          go_loopw [7, 8] (fun gv7 iv wr => ∃ (i : Nat) (s7 : Option Addr) (c7 : Nat), i ≤ 70 ∧ gv7 = .slice s7 (n k + i) c7 ∧ iv = .int .i64 (i : Int) ∧ Hid (P2i B gb gl lc so n sc v w wr k i (.slice go k gc) (.slice s7 (n k + i) c7))) (fun _ iv _ => 70 - (intOf iv).toNat)
          case atStart => exact ⟨0, so k, sc k, by decide, rfl, rfl, HPi⟩
          case round =>
            clear HPi
            obtain ⟨i, s7, c7, hi, rfl, rfl, HP⟩ := hrel
            have hlc : wr.cell? ⟨gl, k, none⟩ = some (.slice (so k) (n k) (sc k)) := by
              obtain ⟨so', sc', L, L7, h1, _⟩ := HP.out.ex
              exact h1.at hk4
            by_cases hlt : i < 70
            · have hj1 : (i : Int) < 70 := by omega
              have hj0 : (0 : Int) ≤ (i : Int) := by omega
              have HM : Hid (∀ u, Calls Tryz.prog 66 #[.int .i64 (k : Int), .int .i64 ((n k : Int) + (i : Int))] u fun e w' => e = .returned (.agg #[.int .i64 (-10 - (k : Int)), .int .i64 0, .int .i64 0, .string (wbK k (n k + i))]) ∧ Below u.heap.size u w') := fun u => by
                have := w_markTokens k (n k + i) u (by omega) (by omega)
                rw [Int.natCast_add] at this
                exact this
              go_wp2_with fail
              refine (HM.out _).mono ?_
              rintro e w1 ⟨rfl, hb1⟩
              have HP1 := Hid.mk (HP.out.keep hb1)
              clear hb1 hlc HP
              obtain ⟨so', sc', L, L7, h1, h2, h3⟩ := HP1.out.ex
              have HSu := Hid.mk (And.intro h1 h3)
              have hrow := h2
              have hle := h1.le
              clear h1 h2 h3 HP1
              by_cases hfit : n k + i + 1 ≤ c7
              · obtain ⟨g, rfl⟩ : ∃ g, s7 = some ⟨g, 0, none⟩ := by
                  rcases hrow.2 with ⟨e, _⟩ | ⟨g, cap, cur, e, _⟩
                  · simp only [Value.slice.injEq] at e; omega
                  · simp only [Value.slice.injEq] at e; exact ⟨g, e.1⟩
                go_wp2_with (at_builtin; go_loud (refine wpList_append_fits _ rfl _ _ 22 rfl B 54 i0 4 Tryz.underlying22 hi0' hz1 g (n k + i) c7 L7 rfl ((hrow.alloc _).alloc _) ⟨w1.heap.size + 1, 0, none⟩ 1 1 [.int .i64 (-10 - (k : Int)), .int .i64 0, .int .i64 0, .string (wbK k (n k + i))] rfl rfl (new4 (t := 54) (by rw [show w1.heap.size + 1 = (w1.alloc (.cells #[.int .i64 (-10 - (k : Int)), .int .i64 0, .int .i64 0, .string (wbK k (n k + i))] 54)).heap.size from by simp]; exact heap_alloc_new _ _)) (by intro u hu; simp at hu; rcases hu with rfl | rfl | rfl | rfl <;> rfl) hfit ?_))
                intro w5 hown' hgrow
                have hgs := hgrow.size
                simp at hgs
                have HN5 : Hid (P2i B gb gl lc so n sc v w w5 k (i + 1) (.slice go k gc) (.slice (some ⟨g, 0, none⟩) (n k + (i + 1)) c7)) := P2i.step hk4 HSu.out.1 hrow HSu.out.2 (((HSu.out.1.below.alloc hle _).alloc (by simp; omega) _).grown hgrow (by simp; omega) (fun r e => own_baseT hrow e)) (by omega) hown' (fun b hb hne => (hgrow.block b (by simp; omega) (fun e => hne e.symm)).trans ((Below.heap_alloc _ _ _ (by simp; omega)).trans (Below.heap_alloc _ _ _ (by omega)))) (.inl rfl)
                clear hown' hgrow hrow HSu
                go_wp2_with fail
                go_roundw
                case rel => exact ⟨i + 1, _, _, by omega, rfl, by go_num, HN5⟩
                case measure => simp [intOf]; omega
              · have hoh := own_holds ((hrow.alloc (.cells #[.int .i64 (-10 - (k : Int)), .int .i64 0, .int .i64 0, .string (wbK k (n k + i))] 54)).alloc (.cells #[.int .i64 (-10 - (k : Int)), .int .i64 0, .int .i64 0, .string (wbK k (n k + i))] 54))
                have HOH := Hid.mk hoh
                clear hoh
                go_wp2_with (at_builtin; go_loud (refine wpList_append_grows _ rfl _ _ 22 rfl 54 i0 (.agg #[.int .i64 0, .int .i64 0, .int .i64 0, .string ⟨#[]⟩]) 4 40 Tryz.underlying22 hi0' hz0 hz1 hz2 rfl (by decide) s7 (n k + i) c7 L7 rfl HOH.out.1 hrow.1 HOH.out.2 ⟨w1.heap.size + 1, 0, none⟩ 1 1 [.int .i64 (-10 - (k : Int)), .int .i64 0, .int .i64 0, .string (wbK k (n k + i))] rfl rfl (new4 (t := 54) (by rw [show w1.heap.size + 1 = (w1.alloc (.cells #[.int .i64 (-10 - (k : Int)), .int .i64 0, .int .i64 0, .string (wbK k (n k + i))] 54)).heap.size from by simp]; exact heap_alloc_new _ _)) (by intro u hu; simp at hu; rcases hu with rfl | rfl | rfl | rfl <;> rfl) (by omega) (by unfold maxLen; omega) (by omega) ?_))
                intro v5 w5 hown' hgrow
                obtain ⟨g', cap', rfl⟩ := ownsRow_succ hown'
                have hgs := hgrow.size
                simp at hgs
                have hgb := own_baseT hown' (g := g') rfl
                (try simp at hgb)
                have hall : ∀ b, b < w1.heap.size → w5.heap[b]? = w1.heap[b]? := fun b hb => (hgrow.block b (by simp; omega) (fun e => by cases e)).trans ((Below.heap_alloc _ _ _ (by simp; omega)).trans (Below.heap_alloc _ _ _ (by omega)))
                have HN5 : Hid (P2i B gb gl lc so n sc v w w5 k (i + 1) (.slice go k gc) (.slice (some ⟨g', 0, none⟩) (n k + (i + 1)) cap')) := P2i.step hk4 HSu.out.1 hrow HSu.out.2 (((HSu.out.1.below.alloc hle _).alloc (by simp; omega) _).grown hgrow (by simp; omega) (fun r e => by cases e)) (by omega) (own_weaken hown' (by first | omega | (simp; omega))) (fun b hb _ => hall b hb) (.inr ⟨⟨g', rfl, by omega⟩, hall⟩)
                clear hown' hgrow hrow HSu hall
                go_wp2_with fail
                go_roundw
                case rel => exact ⟨i + 1, _, _, by omega, rfl, by go_num, HN5⟩
                case measure => simp [intOf]; omega
            · have hj1 : ¬ (i : Int) < 70 := by omega
              obtain rfl : i = 70 := by omega
              obtain ⟨so', sc', L, L7, h1, h2, h3⟩ := HP.out.ex
              have HSu := Hid.mk (And.intro h1 (And.intro h2 h3))
              have hgs := h1.gs
              have hle := h1.le
              have hgl : gl < wr.heap.size := own_ltT h1.ls gl rfl
              have hgne := h1.gsne
              clear h1 h2 h3 HP hlc
              go_wp2_with (at_builtin; go_loud (refine wpList_append_lies _ rfl _ _ 32 rfl B 22 i1 (.slice none 0 0) 1 24 Tryz.underlying32 hi1' hy0 hy1 hy2 rfl (by decide) _ _ _ rfl (hgs.alloc _) ⟨wr.heap.size, 0, none⟩ 1 1 [.slice s7 (n k + 70) c7] rfl rfl (World.news_of_block (cs := #[.slice s7 (n k + 70) c7]) (t := 22) (fr := (0, 0)) (heap_alloc_new wr _)) (by intro u hu; simp at hu; subst hu; rfl) (by omega) (by unfold maxLen; omega) (by omega) (by simp; omega) (wr.heap.size + 1) (by simp) ?_))
              intro g' cap' w5 hown' hgrow hor hglt
              have hsz := hgrow.size
              simp at hsz
              have HN5 : Hid (P2 B gb gl lc so n sc v w w5 (k + 1) (.slice (some ⟨g', 0, none⟩) (k + 1) cap')) := P2i.next hk4 HSu.out.1 HSu.out.2.1 HSu.out.2.2 ((HSu.out.1.below.alloc hle _).grown hgrow (by simp; omega) (fun r e => own_baseT hgs e)) (by omega) hown' (fun b hb hne => (hgrow.block b (by simp; omega) (fun e => hne e.symm)).trans (Below.heap_alloc _ _ _ (by omega))) (by
                intro e
                have eg : g' = gl := by simpa [Value.ownBlock] using e
                rcases hor with h | h
                · exact hgne (by rw [h, eg])
                · omega)
              clear hown' hgrow hor hgs HSu hgne
              go_wp2_with fail
              go_roundw
              case rel => exact ⟨k + 1, _, _, by omega, rfl, by go_num, HN5⟩
              case measure => simp [intOf]; omega
        · have hi1 : ¬ (k : Int) < 4 := by omega
          obtain rfl : k = 4 := by omega
          obtain ⟨gg, so', sc', rfl, hgc, h3⟩ := (show P3 B gb gl lc so n sc v w wr (.slice go 4 gc) from by
            rcases HP.out with ⟨h, _⟩ | ⟨_, h⟩
            · exact absurd h (by decide)
            · exact h).open
          have HP3 := Hid.mk h3
          clear h3 HP
          go_wp2_with fail
          go_loopw [10] (fun kv wr => ∃ k : Nat, k ≤ 4 ∧ kv = .int .i64 (k : Int) ∧ Hid (P3x B gb gl lc gg so n sc v w wr so' sc')) (fun kv _ => 4 - (intOf kv).toNat)
          case atStart => exact ⟨0, by decide, rfl, HP3⟩
          case round =>
            clear HP3
            obtain ⟨k, hk, rfl, HP⟩ := hrel
            by_cases hk4 : k < 4
            · have hi1 : (k : Int) < 4 := by omega
              have hi0 : (0 : Int) ≤ (k : Int) := by omega
              have hnk := HMn.out k
              go_wp2_with fail
              go_loopw [11] (fun iv wr => ∃ i : Nat, i ≤ n k + 70 ∧ iv = .int .i64 (i : Int) ∧ Hid (P3x B gb gl lc gg so n sc v w wr so' sc')) (fun iv _ => n k + 70 - (intOf iv).toNat)
              case atStart => exact ⟨0, Nat.zero_le _, rfl, HP⟩
              case round =>
                clear HP
                obtain ⟨i, hi, rfl, HP⟩ := hrel
                obtain ⟨hg1, cg⟩ := HP.out.gs k hk4
                by_cases hlt : i < n k + 70
                · have hj1 : (i : Int) < (n k : Int) + 70 := by omega
                  have hj1' : (i : Int) < ((n k + 70 : Nat) : Int) := by omega
                  have hj0 : (0 : Int) ≤ (i : Int) := by omega
                  have HM := Hid.mk (fun u => w_markTokens k i u (by omega) (by omega))
                  unfold mkA at HM
                  go_wp2_with fail
                  refine (HM.out _).mono ?_
                  rintro e w1 ⟨rfl, hb1⟩
                  have HP1 := Hid.mk (HP.out.keep hb1)
                  clear hb1 HP cg hg1
                  go_wp2_with fail
                  obtain ⟨Wb, hWb⟩ : ∃ Wb, w1.alloc (.cells #[.int .i64 (-10 - (k : Int)), .int .i64 0, .int .i64 0, .string (wbK k i)] 54) = Wb := ⟨_, rfl⟩
                  have HPb : Hid (P3x B gb gl lc gg so n sc v w Wb so' sc') := by rw [← hWb]; exact HP1.out.keep (below1 w1 _)
                  have hbox : Wb.heap[w1.heap.size]? = some (.cells #[.int .i64 (-10 - (k : Int)), .int .i64 0, .int .i64 0, .string (wbK k i)] 54 (0, 0)) := by rw [← hWb]; exact heap_alloc_new _ _
                  have hbl : w1.heap.size < Wb.heap.size := (Array.getElem?_eq_some_iff.1 hbox).1
                  rw [hWb]
                  clear hWb HP1
                  obtain ⟨x0, x1, x2, x3, _⟩ := tbox_cells hbox
                  obtain ⟨hgg, cg⟩ := HPb.out.gs k hk4
                  obtain ⟨hgl, cl⟩ := HPb.out.ls k hk4
                  obtain ⟨g', hso', hg', e0, e1, e2, e3⟩ := (HPb.out.rd' k hk4).cells hlt
                  rw [hso'] at cg
                  have HS := Hid.mk (fun u => w_SameMark (-10 - (k : Int)) (wbK k i) u)
                  clear hbox hso'
                  by_cases hin : i < n k
                  · obtain ⟨g, hso, hg, d0, d1, d2, d3⟩ := (HPb.out.rd k hk4).cells hin
                    refine reg26a hgc hl4 hk4 hlt hnk hbl hgl x0 x1 x2 x3 cg cl e0 e1 e2 e3 hso hin hg d0 d1 d2 d3 ?_
                    intro z86 z87 z88 z89 z90 z91 z92 z93 z94 z95 z96 z97 z98 z99 z100 z101 z102 z103 z104 z105 z106 z107 z108 z109 z110 z111 z112 z113 z114 z115 wx hwx
                    have HPn := Hid.mk (HPb.out.keep hwx)
                    clear hwx x0 x1 x2 x3 cg cl e0 e1 e2 e3 d0 d1 d2 d3
                    go_wp2_with fail
                    go_roundw
                    case rel => exact ⟨i + 1, by omega, by go_num, HPn⟩
                    case measure => simp [intOf]; omega
                  · refine reg26b hgc hl4 hk4 hlt hnk hbl hgl x0 x1 x2 x3 cg cl hin e0 e1 e2 e3 ?_
                    intro z86 z87 z88 z89 z90 z91 z92 z93 z94 z95 z96 z97 z98 z99 z100 z101 z102 z103 z104 z105 z106 z107 z108 z109 z110 z111 z112 z113 z114 z115 wx hwx
                    have HPn := Hid.mk (HPb.out.keep hwx)
                    clear hwx x0 x1 x2 x3 cg cl e0 e1 e2 e3
                    go_wp2_with fail
                    go_roundw
                    case rel => exact ⟨i + 1, by omega, by go_num, HPn⟩
                    case measure => simp [intOf]; omega
                · have hj1 : ¬ (i : Int) < (n k : Int) + 70 := by omega
                  have hj1' : ¬ (i : Int) < ((n k + 70 : Nat) : Int) := by omega
                  go_wp2_with fail
                  go_roundw
                  case rel => exact ⟨k + 1, by omega, by go_num, HP⟩
                  case measure => simp [intOf]; omega
            · have hi1 : ¬ (k : Int) < 4 := by omega
              go_wp2_with fail
              go_ret
              exact ⟨rfl, HP.out.bk, HP.out.below⟩
end Go.Proofs.YtohclfgghobldaaGreatDoor
