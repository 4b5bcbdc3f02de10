import Derived.Test.YtdjleoglphgdgaaGreatDoorCards
import Derived.Test.YtdjleoglphgdgaaGreatDoorTie
import Derived.Test.YtdjleoglphgdgaaGreatDoorM47
import GoSem.PinnedTables
import Derived.WalkKit
import Derived.ProofKit
import Derived.OpenShut
import Derived.ShutString
import Derived.SizedLaws
import Derived.Stop.LaidErr
import Derived.Deep.DeepHandedRow
import Derived.Lib.LaidTab
import Derived.Test.YtdjleoglphgdgaaGreatDoorM40
import Derived.Test.YtdjleoglphgdgaaGreatDoorM50
import Derived.Test.YtdjleoglphgdgaaGreatDoorM51
import Derived.WideKeyArgs
import Derived.WideKeyElems4
namespace Go.Proofs.YtdjleoglphgdgaaGreatDoor
open Go.ChangeShapes Go.WideShapes Go.ChangeAt Go.RowKit
set_option linter.unusedVariables false

theorem own18 : ownKnob Tryz.prog.godebug = none := by kernel_rfl
theorem reach47 {s : ByteArray} (h : s.data.toList.length ≤ reachBytes) : s.size ≤ 140737488355328 := by
  have e0 : s.data.toList.length = s.size := by rw [Array.length_toList]; rfl
  have := reachBytes_lt
  omega

/-- a world for the witness: the variable holds what its initialiser lays -/
noncomputable def laidWorld18 (os : Os) : World :=
  let w0 := World.holding Tryz.prog os ⟨#[], #[], []⟩
  { w0 with heap := w0.heap.modify 0 fun
      | .cells _ t frozen => .cells pTabA t frozen
      | o => o }
set_option maxRecDepth 100000 in
theorem laid_met18 (os : Os) (args : Array Value) : laidMet Tryz.prog [("hallmark/show.operations", Rows.laid_hallmark_show_operations)] ((laidWorld18 os).forCall (fun _ _ => 0) ⟨#[], args, []⟩).memory :=
  laidMet_of_run' 8 (by kernel_rfl) (by kernel_rfl)
theorem arr_el {H : Type} {enc : TypeId × Value → H} {P : Program} {w : World} {base : Nat} {sp : Nat → Bool} {held : Bool} {fuel : Nat} {t e : TypeId} {n : Nat} {cs : List Value} {ds : List (DataW H)} {p : List MemPlace} (ht : P.underlying t = some (.array n e))
    (h : DataW.trod enc P w base sp held fuel t cs = some (.agg ds, p)) (i : Nat) (hi : i < n) :
    ∃ fuel' d q, ds[i]? = some d ∧ DataW.trod enc P w base sp held fuel' e ((cs.drop (i * P.cellsOf e)).take (P.cellsOf e)) = some (d, q) := by
  cases fuel with
  | zero => simp [DataW.trod] at h
  | succ fuel =>
    simp only [DataW.trod, ht] at h
    split at h
    · obtain ⟨xs, hm, hx⟩ := Option.map_eq_some_iff.1 h
      obtain ⟨b, hb, hf⟩ := Lib.mapM_at hm i i (by simp [hi])
      have hds : xs.map (·.1) = ds := by
        have := congrArg Prod.fst hx
        simpa using this
      exact ⟨fuel, b.1, b.2, by rw [← hds]; simp [hb], hf⟩
    · cases h
theorem cells152 : Tryz.prog.cellsOf 130 = 4 := by kernel_rfl
theorem cells9 : Tryz.prog.cellsOf 9 = 1 := by kernel_rfl
theorem cells3o : Tryz.prog.cellsOf 3 = 1 := by kernel_rfl
theorem gOps : Tryz.prog.globalNamed "hallmark/show.operations" = some 0 := by kernel_rfl
theorem gOpsType : (Tryz.prog.globals[(0 : Nat)]?).map (·.type) = some 131 := by kernel_rfl
/-- the datum of the operations -/
def opD {H : Type} (r : List UInt8 × Nat × Nat × Nat) : DataW H := .agg [.lit (.string r.1), .lit (.int .i64 (r.2.1 : Int)), .lit (.int .i64 (r.2.2.1 : Int)), .lit (.int .i64 (r.2.2.2 : Int))]
theorem flatRow (i : Nat) (hi : i < pTab.length) : (pTabA.toList.drop (i * 4)).take 4 = [.string ⟨pTab[i].1.toArray⟩, .int .i64 (pTab[i].2.1 : Int), .int .i64 (pTab[i].2.2.1 : Int), .int .i64 (pTab[i].2.2.2 : Int)] := by
  apply List.ext_getElem?
  intro j
  by_cases hj : j < 4
  · simp only [List.getElem?_take, List.getElem?_drop, if_pos hj]
    exact flat4 (fun r : List UInt8 × Nat × Nat × Nat => ([.string ⟨r.1.toArray⟩, .int .i64 (r.2.1 : Int), .int .i64 (r.2.2.1 : Int), .int .i64 (r.2.2.2 : Int)] : List Value)) (fun _ => rfl) pTab i j hj hi
  · simp only [List.getElem?_take, if_neg hj]
    rw [List.getElem?_eq_none]
    simp
    omega
set_option maxRecDepth 100000 in
theorem laid_ops {H : Type} : (Rows.laid_hallmark_show_operations : DataW H) = .agg (pTab.map opD) := rfl
set_option maxRecDepth 100000 in
theorem op_cells {H : Type} {enc : TypeId × Value → H} {w : World} {fuel : Nat} {cs : List Value} {r : List UInt8 × Nat × Nat × Nat} {q : List MemPlace} (h : DataW.trod enc Tryz.prog w 0 (fun _ => true) false fuel 130 cs = some (opD r, q)) : cs = [.string ⟨r.1.toArray⟩, .int .i64 (r.2.1 : Int), .int .i64 (r.2.2.1 : Int), .int .i64 (r.2.2.2 : Int)] := by
  obtain ⟨xs, n, rfl, hx, hl, hxl, hall⟩ := DataW.trod_struct Tryz.underlying130 h
  rw [cells152] at hl
  have hx4 : xs.length = 4 := hxl
  have h0 := hall 0 _ rfl
  have h1 := hall 1 _ rfl
  have h2 := hall 2 _ rfl
  have h3 := hall 3 _ rfl
  match xs, hx4, cs, hl with
  | [y0, y1, y2, y3], _, [v0, v1, v2, v3], _ =>
    simp [cells9, cells3o] at h0 h1 h2 h3
    have hx' : opD r = _ := congrArg Prod.fst hx
    simp only [opD, List.map_cons, List.map_nil, DataW.agg.injEq, List.cons.injEq, and_true] at hx'
    obtain ⟨g0, g1, g2, g3⟩ := hx'
    obtain ⟨s, e0, d0, _⟩ := DataW.trod_string Tryz.underlying9 h0
    obtain ⟨z1, e1, d1, _⟩ := DataW.trod_int Tryz.underlying3 h1
    obtain ⟨z2, e2, d2, _⟩ := DataW.trod_int Tryz.underlying3 h2
    obtain ⟨z3, e3, d3, _⟩ := DataW.trod_int Tryz.underlying3 h3
    rw [d0] at g0
    rw [d1] at g1
    rw [d2] at g2
    rw [d3] at g3
    simp only [DataW.lit.injEq, Lit.string.injEq, Lit.int.injEq, true_and] at g0 g1 g2 g3
    simp at e0 e1 e2 e3
    subst e0 e1 e2 e3
    rw [g1, g2, g3]
    have : (⟨r.1.toArray⟩ : ByteArray) = s := by rw [g0]
    rw [this]
theorem cut4 {α : Type} : ∀ (n : Nat) (l m : List α), l.length = 4 * n → m.length = 4 * n → (∀ i, i < n → (l.drop (i * 4)).take 4 = (m.drop (i * 4)).take 4) → l = m := by
  intro n l m hl hm h
  apply List.ext_getElem?
  intro j
  by_cases hj : j < 4 * n
  · have h1 := congrArg (fun z => z[j % 4]?) (h (j / 4) (by omega))
    simp only [List.getElem?_take, List.getElem?_drop] at h1
    rw [if_pos (by omega), if_pos (by omega), show j / 4 * 4 + j % 4 = j by omega] at h1
    exact h1
  · rw [List.getElem?_eq_none (by omega), List.getElem?_eq_none (by omega)]
set_option maxRecDepth 100000 in
theorem tabIn {W : World} (h : laidMetH Tryz.prog [("hallmark/show.operations", Rows.laid_hallmark_show_operations)] W) : PTabIn W := by
  have h' : laidMet Tryz.prog [("hallmark/show.operations", Rows.laid_hallmark_show_operations)] W := h
  obtain ⟨ps, ⟨g, t, cs, fuel, p, q, hg, ht, hv, hd, _, e⟩, _, hrows⟩ := h'
  obtain rfl := Option.some.inj (gOps.symm.trans hg)
  obtain rfl := Option.some.inj (gOpsType.symm.trans ht)
  rw [laid_ops] at hd
  have hlen : cs.toList.length = 4 * 44 := by
    cases fuel with
    | zero => simp [DataW.trod] at hd
    | succ fuel =>
      simp only [DataW.trod, Tryz.underlying131] at hd
      split at hd
      · rename_i hs
        have h176 : Tryz.prog.cellsOf 131 = 176 := by kernel_rfl
        simpa [h176] using hs
      · cases hd
  have hcs : cs = pTabA := by
    apply Array.toList_inj.1
    refine cut4 44 _ _ hlen rfl fun i hi => ?_
    obtain ⟨f', d, q', h1, h2⟩ := arr_el Tryz.underlying131 hd i hi
    rw [cells152] at h2
    obtain ⟨r, hr, rfl⟩ : ∃ r, pTab[i]? = some r ∧ opD r = d := by
      rw [List.getElem?_map] at h1
      cases hr : pTab[i]? with
      | none => rw [hr] at h1; cases h1
      | some r => rw [hr] at h1; exact ⟨r, rfl, by simpa using h1⟩
    rw [op_cells h2]
    have hi' : i < pTab.length := by rw [pTab_len]; exact hi
    obtain rfl : pTab[i] = r := by rw [List.getElem?_eq_getElem hi'] at hr; exact Option.some.inj hr
    exact (flatRow i hi').symm
  subst hcs
  have hc : MemPlace.cell 0 0 ∈ ps := by
    rw [e]
    have : pTabA.size = 176 := rfl
    simp [MemPlace.row, this]
  obtain ⟨⟨c, t, hh⟩, _⟩ := hrows 0 0 hc
  have : c = pTabA := by
    unfold World.var? at hv
    rw [gOps] at hv
    simp only [Option.bind_some, hh, Option.some.injEq] at hv
    exact hv
  subst this
  exact ⟨t, hh⟩
end Go.Proofs.YtdjleoglphgdgaaGreatDoor
namespace Go.Proofs.YtdjleoglphgdgaaGreatDoor
open Go.ChangeShapes Go.WideShapes Go.RowKit
set_option linter.unusedVariables false

theorem upto_pos {H : Type} (d : DataW H) : 1 ≤ Rows.uptoBulk d := by
  cases d with
  | lit l => cases l <;> simp [Rows.uptoBulk]
  | _ => simp [Rows.uptoBulk]
theorem smT_mono {B C : Nat → Nat} : ∀ {n : Nat}, (∀ i, i < n → B i ≤ C i) → smT B n ≤ smT C n
  | 0, _ => Nat.le_refl _
  | n + 1, h => by
    rw [smT_succ, smT_succ]
    have h1 := smT_mono (n := n) (fun i hi => h i (by omega))
    have h2 := h n (by omega)
    omega
theorem smT_cons (B : Nat → Nat) : ∀ n, smT B (n + 1) = B 0 + smT (fun i => B (i + 1)) n
  | 0 => by simp [smT, List.range_succ]
  | n + 1 => by
    rw [smT_succ, smT_cons B n, smT_succ]
    omega
theorem ball_sm {H : Type} : ∀ (l : List (DataW H)), Rows.uptoBulkAll l = smT (fun i => Rows.uptoBulk (l.getD i .nil)) l.length
  | [] => rfl
  | d :: r => by
    rw [List.length_cons, smT_cons, Rows.uptoBulkAll, ball_sm r]
    rfl
theorem keys_bulk {H : Type} {y : DataW H} {keys : List ByteArray} {D : Nat → DataW H} {sp : List (DataW H)} (h : y = .nil ∧ keys = [] ∨ y = .slice ((List.range keys.length).map D) sp ∧ ∀ i, i < keys.length → D i = .lit (.string (keys.getD i .empty).data.toList)) : (keys.map (fun x => x.size + 1)).sum + 1 ≤ Rows.uptoBulk y := by
  rcases h with ⟨rfl, rfl⟩ | ⟨rfl, hd⟩
  · simp [Rows.uptoBulk]
  · have e : Rows.uptoBulkAll ((List.range keys.length).map D) = (keys.map (fun x => x.size + 1)).sum := by
      rw [ball_sm, List.length_map, List.length_range]
      have e2 : ∀ (ks : List ByteArray), (ks.map (fun x => x.size + 1)).sum = smT (fun i => (ks.getD i .empty).size + 1) ks.length := by
        intro ks
        induction ks with
        | nil => rfl
        | cons a r ih =>
          rw [List.length_cons, smT_cons, List.map_cons, List.sum_cons, ih]
          rfl
      rw [e2]
      apply Nat.le_antisymm
      · refine smT_mono (fun i hi => ?_)
        rw [List.getD_eq_getElem?_getD, List.getElem?_eq_getElem (by simpa using hi)]
        simp only [Option.getD_some, List.getElem_map, List.getElem_range]
        rw [hd i hi]
        simp only [Rows.uptoBulk]
        rw [Array.length_toList]
        exact Nat.le_refl _
      · refine smT_mono (fun i hi => ?_)
        rw [List.getD_eq_getElem?_getD (l := (List.range keys.length).map D), List.getElem?_eq_getElem (by simpa using hi)]
        simp only [Option.getD_some, List.getElem_map, List.getElem_range]
        rw [hd i hi]
        simp only [Rows.uptoBulk]
        rw [Array.length_toList]
        exact Nat.le_refl _
    simp only [Rows.uptoBulk]
    rw [e]
    omega
theorem bk_eq {W : World} {D : Nat → Prop} : ∀ (n : Nat) (T : NT) {v : Value}, InN D W n T v → ∀ m, n ≤ m → bkT m T = bkT n T
  | 0, _, _, h, _, _ => h.elim
  | n + 1, T, v, hI, m, hm => by
    obtain ⟨m, rfl⟩ : ∃ k, m = k + 1 := ⟨m - 1, by omega⟩
    obtain ⟨io, ic, yo, yc, no, nc, ko, kc, e, _, _, _, _, _, hk⟩ := hI
    have hs : ∀ i, i < T.kids.length → bkT m (T.kids.getD i nn0) = bkT n (T.kids.getD i nn0) := fun i hi => by
      obtain ⟨b, off, _, _, _, hc⟩ := hk (by omega)
      obtain ⟨c, _, ht⟩ := hc i hi
      rw [getD_kid hi]
      exact bk_eq n _ ht m (by omega)
    have e2 : smT (fun i => bkT m (T.kids.getD i nn0)) T.kids.length = smT (fun i => bkT n (T.kids.getD i nn0)) T.kids.length :=
      Nat.le_antisymm (smT_mono (fun i hi => Nat.le_of_eq (hs i hi))) (smT_mono (fun i hi => Nat.le_of_eq (hs i hi).symm))
    rw [bkT, bkT, e2]

section
variable {H : Type} {enc : TypeId × Value → H} {W : World}
theorem val_bulk {m : Nat} {cs : List Value} {x : DataW H × List MemPlace} {v0 v3 v4 : Value} {a b : ByteArray} (h : DataW.trod enc Tryz.prog W 0 (fun _ => true) true m 25 cs = some x) (e : cs = [v0, .string a, .string b, v3, v4]) : a.size + b.size + 6 ≤ Rows.uptoBulk x.1 := by
  obtain ⟨xs, m, hfu, hx, hl, hn, hi⟩ := DataW.trod_struct Tryz.underlying25 h
  subst e
  have hn5 : xs.length = 5 := hn
  have h1 := hi 1 _ rfl
  have h2 := hi 2 _ rfl
  match xs, hn5 with
  | [y0, y1, y2, y3, y4], _ =>
    simp [g_cells9] at h1 h2
    obtain ⟨s1, e1, d1, _⟩ := DataW.trod_string Tryz.underlying9 h1
    obtain ⟨s2, e2, d2, _⟩ := DataW.trod_string Tryz.underlying9 h2
    simp at e1 e2
    subst e1 e2
    have b0 := upto_pos y0.1
    have b3 := upto_pos y3.1
    have b4 := upto_pos y4.1
    rw [hx]
    simp only [List.map_cons, List.map_nil, Rows.uptoBulk, Rows.uptoBulkAll]
    rw [d1, d2]
    simp only [Rows.uptoBulk]
    rw [Array.length_toList, Array.length_toList]
    have z1 : a.data.size = a.size := rfl
    have z2 : b.data.size = b.size := rfl
    omega

set_option maxRecDepth 100000 in
set_option maxHeartbeats 1600000 in
/-- a filter as it is handed in, as a tree, with its size -/
theorem nn_openS : ∀ (fuel : Nat) (cs : List Value) (x : DataW H × List MemPlace), DataW.trod enc Tryz.prog W 0 (fun _ => true) true fuel 28 cs = some x → WtOk (x.1.weights Tryz.prog 28) →
    ∃ (T : NT) (c0 c1 c2 c3 c4 c5 c6 c7 c8 c9 : Value), cs = [c0, c1, c2, c3, c4, c5, c6, c7, c8, c9] ∧ InA W fuel T (.agg #[c0, c1, c2, c3, c4, c5, c6, c7, c8, c9]) ∧ bkT fuel T ≤ Rows.uptoBulk x.1 := by
  intro fuel
  induction fuel using Nat.strongRecOn with
  | ind fuel ih =>
  intro cs x h hw
  obtain ⟨xs, m, hfu, hx, hl, hn, hi⟩ := DataW.trod_struct Tryz.underlying28 h
  rw [g_cellsN] at hl
  have hn6 : xs.length = 6 := hn
  have h0 := hi 0 _ rfl
  have h1 := hi 1 _ rfl
  have h2 := hi 2 _ rfl
  have h3 := hi 3 _ rfl
  have h4 := hi 4 _ rfl
  have h5 := hi 5 _ rfl
  match xs, hn6, cs, hl with
  | [y0, y1, y2, y3, y4, y5], _, [v0, v1, v2, v3, v4, v5, v6, v7, v8, v9], _ =>
    simp [g_cells3, g_cells9, g_cellsV, g_cellsSs, g_cellsNs] at h0 h1 h2 h3 h4 h5
    have hw' : WtOk (y2.1.weights Tryz.prog 9 ++ (y3.1.weights Tryz.prog 25 ++ (y4.1.weights Tryz.prog 23 ++ y5.1.weights Tryz.prog 26))) := by
      intro y hy
      apply hw y
      rw [hx]
      simp only [DataW.weights, Tryz.underlying28, List.map_cons, List.map_nil, DataW.weightsEach, List.append_nil]
      exact List.mem_append.2 (.inr (List.mem_append.2 (.inr hy)))
    obtain ⟨k, e0, _, _⟩ := DataW.trod_int Tryz.underlying3 h0
    obtain ⟨k1, e1, _, _⟩ := DataW.trod_int Tryz.underlying3 h1
    obtain ⟨tx, e2, d2, _⟩ := DataW.trod_string Tryz.underlying9 h2
    obtain ⟨V, u0, u1, u2, u3, u4, e3, hV⟩ := vt_open m _ _ h3 (fun y hy => hw' y (List.mem_append.2 (.inr (List.mem_append.2 (.inl hy)))))
    obtain ⟨ko, kcap, keys, Dk, spk, e4, hkc, hkin, hkd⟩ := keys_open h4
    have e0' : v0 = .int .i64 k := by simpa using e0
    have e1' : v1 = .int .i64 k1 := by simpa using e1
    have e2' : v2 = .string tx := by simpa using e2
    have e4' : v8 = .slice ko keys.length kcap := by simpa using e4
    simp at e3
    obtain ⟨rfl, rfl, rfl, rfl, rfl⟩ := e3
    have s2 : tx.size ≤ 140737488355328 := by
      have := hw' tx.data.toList.length (by rw [d2]; simp [DataW.weights])
      rw [Array.length_toList] at this
      exact this
    have s4 : keys.length ≤ 140737488355328 ∧ ∀ k ∈ keys, k.size ≤ 140737488355328 := by
      rcases hkd with ⟨_, rfl⟩ | ⟨hd, hdi⟩
      · exact ⟨by simp, by simp⟩
      · have hb : Tryz.prog.bytesOf 9 = 16 := by kernel_rfl
        constructor
        · have := hw' ((keys.length + spk.length) * 16) (by rw [hd]; simp [DataW.weights, Tryz.underlying23, hb])
          omega
        · intro kk hk
          obtain ⟨i, hil, rfl⟩ := List.getElem_of_mem hk
          have hgd : keys.getD i ByteArray.empty = keys[i] := by simp [List.getD, hil]
          have := hw' keys[i].data.toList.length (by
            rw [hd]
            simp only [DataW.weights, Tryz.underlying23]
            refine List.mem_append.2 (.inr (List.mem_append.2 (.inr (List.mem_append.2 (.inl (List.mem_cons.2 (.inr (List.mem_append.2 (.inl ?_)))))))))
            refine mem_wAll (d := Dk i) (List.mem_map.2 ⟨i, List.mem_range.2 hil, rfl⟩) ?_
            rw [hdi i hil, hgd]; simp [DataW.weights])
          rw [Array.length_toList] at this
          exact this
    obtain ⟨io, icap, yo, ycap, hve, hvr⟩ : ∃ io icap yo ycap, (Value.agg #[v3, v4, v5, v6, v7]) = .agg #[.int .i64 V.kind, .string V.num, .string V.text, .slice io V.items.length icap, .slice yo V.keys.length ycap] ∧ InV (fun _ => True) W (m + 1) V (.agg #[v3, v4, v5, v6, v7]) := by
      have hU := (InV.ofH hV).up
      obtain ⟨io, icap, yo, ycap, e, _⟩ := id hU
      exact ⟨io, icap, yo, ycap, e, hU⟩
    simp only [Value.agg.injEq, Array.mk.injEq, List.cons.injEq, and_true] at hve
    obtain ⟨rfl, rfl, rfl, rfl, rfl⟩ := hve
    have hnm : 0 < keys.length → ∃ b off, ko = some ⟨b, off, none⟩ ∧ True ∧ b < W.heap.size ∧ ∀ i, i < keys.length → W.cell? ⟨b, off + i, none⟩ = some (.string (keys.getD i .empty)) := fun h0 => by
      obtain ⟨b, off, e, hl, hc⟩ := hkin.row h0
      exact ⟨b, off, e, trivial, hl, hc⟩
    have b0 := upto_pos y0.1
    have b1 := upto_pos y1.1
    have b2 : Rows.uptoBulk y2.1 = tx.size + 1 := by
      rw [d2]
      simp only [Rows.uptoBulk]
      rw [Array.length_toList]
      rfl
    have b3 := val_bulk h3 rfl
    have b4 := keys_bulk hkd
    have hbx : Rows.uptoBulk x.1 = Rows.uptoBulk y0.1 + (Rows.uptoBulk y1.1 + (Rows.uptoBulk y2.1 + (Rows.uptoBulk y3.1 + (Rows.uptoBulk y4.1 + (Rows.uptoBulk y5.1 + 0))))) + 1 := by
      rw [hx]
      simp only [List.map_cons, List.map_nil, Rows.uptoBulk, Rows.uptoBulkAll]
    rcases elems_open Tryz.underlying26 h5 with ⟨e5, e5n⟩ | ⟨a, len, cap, n, elems, sp, hfn, e5, hlc, hel, hd, hcell⟩
    · have e5' : v9 = .slice none 0 0 := by simpa using e5
      subst e0' e1' e2' e5' e4'
      refine ⟨.mk k k1 tx V keys [], _, _, _, _, _, _, _, _, _, _, rfl, ?_, ?_⟩
      rotate_left
      · have b5 : Rows.uptoBulk y5.1 = 1 := by rw [e5n]; rfl
        rw [hfu, bkT, hbx]
        simp only [NT.text, NT.value, NT.names, NT.kids, List.length_nil]
        have e0 : smT (fun i => bkT m (([] : List NT).getD i nn0)) 0 = 0 := rfl
        omega
      rw [hfu]
      exact ⟨io, icap, yo, ycap, ko, kcap, none, 0, rfl, s2, hvr, ⟨hkc, s4.1, s4.2⟩, ⟨Nat.le_refl _, Nat.zero_le _⟩, hnm, fun h => absurd h (by show ¬ 0 < 0; omega)⟩
    · have e5' : v9 = .slice (some a) len cap := by simpa using e5
      have hbN : Tryz.prog.bytesOf 28 = 168 := by kernel_rfl
      have s3 : len ≤ 140737488355328 := by
        have := hw' ((elems.length + sp.length) * 168) (by rw [hd]; simp [DataW.weights, Tryz.underlying26, hbN])
        omega
      have hchild : ∀ i, i < len → ∃ T : NT, ∃ c : Fin 10 → Value, (∀ j : Fin 10, W.cell? (a.add (i * 10 + j.1)) = some (c j)) ∧ InA W m T (ndV c) ∧ bkT m T ≤ Rows.uptoBulk (elems.getD i .nil) := by
        intro i hil
        obtain ⟨cs', ps, hc1, hc2⟩ := hcell i (by omega)
        rw [g_cellsN] at hc1
        obtain ⟨T, q0, q1, q2, q3, q4, q5, q6, q7, q8, q9, rfl, hT, hTb⟩ := ih n (by omega) cs' _ hc2 (by
          intro y hy
          apply hw' y
          rw [hd]
          simp only [DataW.weights, Tryz.underlying26]
          refine List.mem_append.2 (.inr (List.mem_append.2 (.inr (List.mem_append.2 (.inr (List.mem_cons.2 (.inr (List.mem_append.2 (.inl ?_)))))))))
          exact mem_wAll (List.getElem_mem (by omega)) hy)
        obtain ⟨_, _, hcc⟩ := World.cells?_some hc1
        refine ⟨T, ndF [q0, q1, q2, q3, q4, q5, q6, q7, q8, q9], fun j => ?_, InN.le hT (by omega), ?_⟩
        rotate_left
        · rw [bk_eq n T hT m (by omega), List.getD_eq_getElem?_getD, List.getElem?_eq_getElem (by omega)]
          exact hTb
        have hj := j.2
        have := hcc j.1 hj
        rw [Go.Deep.add_add] at this
        rw [this]
        unfold ndF
        rw [List.getD_eq_getElem?_getD, List.getElem?_eq_getElem (by simp)]
        rfl
      obtain ⟨Ts, hTs⟩ := Go.Deep.choose_lt hchild
      subst e0' e1' e2' e5' e4'
      refine ⟨.mk k k1 tx V keys ((List.range len).map Ts), _, _, _, _, _, _, _, _, _, _, rfl, ?_, ?_⟩
      rotate_left
      · have b5 : Rows.uptoBulk y5.1 = Rows.uptoBulkAll elems + Rows.uptoBulkAll sp + 1 := by rw [hd]; rfl
        have b6 := ball_sm elems
        have b7 : smT (fun i => bkT m (((List.range len).map Ts).getD i nn0)) ((List.range len).map Ts).length ≤ smT (fun i => Rows.uptoBulk (elems.getD i .nil)) elems.length := by
          rw [List.length_map, List.length_range, hel]
          refine smT_mono (fun i hi => ?_)
          have e1 : ((List.range len).map Ts).getD i nn0 = Ts i := by
            rw [List.getD_eq_getElem?_getD, List.getElem?_eq_getElem (by simpa using hi)]
            simp
          rw [e1]
          obtain ⟨_, _, _, hb⟩ := hTs i hi
          exact hb
        rw [hfu, bkT, hbx]
        simp only [NT.text, NT.value, NT.names, NT.kids]
        omega
      rw [hfu]
      have hitl : (NT.mk k k1 tx V keys ((List.range len).map Ts)).kids.length = len := by simp [NT.kids]
      refine ⟨io, icap, yo, ycap, ko, kcap, some a, cap, by rw [hitl]; rfl, s2, hvr, ⟨hkc, s4.1, s4.2⟩, by rw [hitl]; exact ⟨hlc, s3⟩, hnm, fun hp => ?_⟩
      rw [hitl] at hp
      obtain ⟨c, hc, _, _⟩ := hTs 0 hp
      have c0 : W.cell? (a.add (0 * 10 + 0)) = some (c 0) := hc 0
      obtain ⟨b, off, spot⟩ := a
      have hspot : spot = none := by simpa [Addr.add] using World.cell?_spot c0
      subst hspot
      refine ⟨b, off, rfl, trivial, ?_, fun i hil => ?_⟩
      · have := World.block_lt_of_cell? W _ c0
        simpa [Addr.add] using this
      · rw [hitl] at hil
        obtain ⟨c, hc, hT, _⟩ := hTs i hil
        have hit : (NT.mk k k1 tx V keys ((List.range len).map Ts)).kids[i]'(by rw [hitl]; exact hil) = Ts i := by simp [NT.kids]
        rw [hit]
        refine ⟨c, fun j => ?_, hT⟩
        have := hc j
        rw [Go.WideShapes.add_plain, ← Nat.add_assoc] at this
        exact this
end
end Go.Proofs.YtdjleoglphgdgaaGreatDoor
namespace Go.Proofs.YtdjleoglphgdgaaGreatDoor.showUnlike
open Go.ChangeShapes Go.WideShapes Go.ChangeAt Go.RowKit
set_option linter.unusedVariables false

theorem laidOut : laidOutB Tryz.prog = true := by kernel_rfl

set_option maxRecDepth 100000 in
theorem contract (H : Type) (enc : TypeId × Value → H) (W : World) (base : Nat) (args : Array Value) (ds gs : List (DataW H)) (before : List MemPlace)
    (hval : ∀ (j : Nat) t v, Tryz.f4.params[j]? = some t → args[j]? = some v → Value.okWide Tryz.prog W .any base t v)
    (hW : DataW.Whole enc Tryz.prog Tryz.f4.params.toList Rows.showUnlikeSpec.vars false W args.toList ds gs before) (hL : laidMetH Tryz.prog Rows.showUnlikeUptoRow.laid W) (hk : Rows.uptoSmall H (ds ++ gs) = true) (hsz : (DataW.weightsEach Tryz.prog (Tryz.f4.params.toList ++ Rows.showUnlikeSpec.plain.varTypes Tryz.prog) (ds ++ gs)).all (· ≤ reachBytes) = true) :
    Calls Tryz.prog 4 args W fun e W' => ∃ v, e = .returned v ∧ Rows.showUnlikeSpec.post enc Tryz.prog Tryz.f4 false true false false W args v W' := by
  have hW' := hW
  obtain ⟨p, q, hA0, hV, rfl, hfz, hnd⟩ := hW
  have hA : DataW.TrodAll enc Tryz.prog W 0 (fun _ => true) true Tryz.f4.params.toList args.toList ds p := hA0
  rw [Tryz.params4] at hA hval hsz
  obtain ⟨v0, vs0, d0, ds0, p0, q0, hargs0, rfl, rfl, h0, r0⟩ := trodAll_cons hA
  obtain ⟨v1, vs1, d1, ds1, p1, q1, rfl, rfl, rfl, h1, r1⟩ := trodAll_cons r0
  obtain ⟨rfl, rfl, rfl⟩ := trodAll_nil r1
  obtain rfl : args = #[v0, v1] := by cases args; simp_all
  obtain ⟨rfl, rfl⟩ := trodVars_none hV
  clear hA0
  simp only [List.append_nil] at hW'
  have hlt0 : ∀ x ∈ p0, x.block < W.heap.size := fun x hx => hW'.lt x (by simp [hx])
  have hk0 := h0
  have hlt1 : ∀ x ∈ p1, x.block < W.heap.size := fun x hx => hW'.lt x (by simp [hx])
  have hk1 := h1
  have again : ∀ (W' : World), Below W.heap.size W W' → DataW.TrodAll enc Tryz.prog W' 0 (fun b => decide (b < W.heap.size)) true [28, 28] [v0, v1] [d0, d1] (p0 ++ (p1 ++ [])) := fun W' hb =>
    (trodAll_cons_mk (WideElems.Trod_stays laidOut (by kernel_rfl) (of_decide_eq_true (by kernel_rfl)) hk0 (fun x hx => hb.same (hlt0 x hx)) (fun x hx => by simpa using hlt0 x hx)) (trodAll_cons_mk (WideElems.Trod_stays laidOut (by kernel_rfl) (of_decide_eq_true (by kernel_rfl)) hk1 (fun x hx => hb.same (hlt1 x hx)) (fun x hx => by simpa using hlt1 x hx)) trodAll_mk0))
  suffices hx : Calls Tryz.prog 4 #[v0, v1] W fun e w' => e = .returned (.bool true) ∧ Below W.heap.size W w' by
    refine hx.mono fun e W' ⟨he, hb⟩ => ?_
    subst he
    exact ⟨_, rfl, _, _, _, [], _, [], hW', trodAll_cons_mk (shut_bool Tryz.underlying4 _) trodAll_mk0, again W' hb, rfl, hb.frame _, fun h => by cases h⟩
  clear again hW'
  obtain ⟨cs0, rfl, hcs0⟩ := okWide_struct Tryz.underlying28 (hval 0 28 v0 rfl rfl)
  obtain ⟨fuel0, hf0⟩ := h0
  have hf0' : DataW.trod enc Tryz.prog W 0 (fun _ => true) true fuel0 28 cs0.toList = some (d0, p0) := hf0
  have hwt0 : WtOk ((d0, p0).1.weights Tryz.prog 28) := by
    intro x hx
    have h1 : x ∈ DataW.weightsEach Tryz.prog ([28, 28] ++ Rows.showUnlikeSpec.plain.varTypes Tryz.prog) ([d0, d1] ++ []) := by
      simp only [List.cons_append, List.nil_append, DataW.weightsEach]
      simp only [List.mem_append]
      exact Or.inl hx
    have h2 := List.all_eq_true.1 hsz x h1
    have h3 : x ≤ reachBytes := by simpa using h2
    have h4 := reachBytes_lt
    omega
  obtain ⟨T0, c0_0, c0_1, c0_2, c0_3, c0_4, c0_5, c0_6, c0_7, c0_8, c0_9, hc0, hU0, hB0⟩ := nn_openS fuel0 cs0.toList (d0, p0) hf0' hwt0
  obtain rfl : cs0 = #[c0_0, c0_1, c0_2, c0_3, c0_4, c0_5, c0_6, c0_7, c0_8, c0_9] := by cases cs0; simp_all
  obtain ⟨cs1, rfl, hcs1⟩ := okWide_struct Tryz.underlying28 (hval 1 28 v1 rfl rfl)
  obtain ⟨fuel1, hf1⟩ := h1
  have hf1' : DataW.trod enc Tryz.prog W 0 (fun _ => true) true fuel1 28 cs1.toList = some (d1, p1) := hf1
  have hwt1 : WtOk ((d1, p1).1.weights Tryz.prog 28) := by
    intro x hx
    have h1 : x ∈ DataW.weightsEach Tryz.prog ([28, 28] ++ Rows.showUnlikeSpec.plain.varTypes Tryz.prog) ([d0, d1] ++ []) := by
      simp only [List.cons_append, List.nil_append, DataW.weightsEach]
      simp only [List.mem_append]
      exact Or.inr (Or.inl hx)
    have h2 := List.all_eq_true.1 hsz x h1
    have h3 : x ≤ reachBytes := by simpa using h2
    have h4 := reachBytes_lt
    omega
  obtain ⟨T1, c1_0, c1_1, c1_2, c1_3, c1_4, c1_5, c1_6, c1_7, c1_8, c1_9, hc1, hU1, hB1⟩ := nn_openS fuel1 cs1.toList (d1, p1) hf1' hwt1
  obtain rfl : cs1 = #[c1_0, c1_1, c1_2, c1_3, c1_4, c1_5, c1_6, c1_7, c1_8, c1_9] := by cases cs1; simp_all
  have hT0 := InN.le hU0 (h' := (fuel0 + fuel1)) (by omega)
  have hT1 := InN.le hU1 (h' := (fuel0 + fuel1)) (by omega)
  have hbulk : Rows.uptoBulkAll [d0, d1] ≤ 1048576 := by
    have h := of_decide_eq_true hk
    simpa using h
  simp only [Rows.uptoBulkAll] at hbulk
  exact w_ShowUnlike (fuel0 + fuel1) T0 T1 _ _ W hT0 hT1 (by rw [bk_eq fuel0 T0 hU0 (fuel0 + fuel1) (by omega)]; have : bkT fuel0 T0 ≤ Rows.uptoBulk d0 := hB0; omega) (by rw [bk_eq fuel1 T1 hU1 (fuel0 + fuel1) (by omega)]; have : bkT fuel1 T1 ≤ Rows.uptoBulk d1 := hB1; omega) (tabIn hL)

theorem reads (os : Os) {H : Type} (enc : TypeId × Value → H) : ∃ places, DataW.whole enc Tryz.prog ((laidWorld18 os).forCall (fun _ _ => 0) ⟨#[], #[.agg #[.int .i64 0, .int .i64 0, .string .empty, .int .i64 0, .string .empty, .string .empty, .slice none 0 0, .slice none 0 0, .slice none 0 0, .slice none 0 0], .agg #[.int .i64 0, .int .i64 0, .string .empty, .int .i64 0, .string .empty, .string .empty, .slice none 0 0, .slice none 0 0, .slice none 0 0, .slice none 0 0]], []⟩).memory Tryz.f4.params.toList Rows.showUnlikeSpec.vars false (#[.agg #[.int .i64 0, .int .i64 0, .string .empty, .int .i64 0, .string .empty, .string .empty, .slice none 0 0, .slice none 0 0, .slice none 0 0, .slice none 0 0], .agg #[.int .i64 0, .int .i64 0, .string .empty, .int .i64 0, .string .empty, .string .empty, .slice none 0 0, .slice none 0 0, .slice none 0 0, .slice none 0 0]] : Array Value).toList 8 = some ([.agg [.lit (.int .i64 0), .lit (.int .i64 0), .lit (.string []), .agg [.lit (.int .i64 0), .lit (.string []), .lit (.string []), .nil, .nil], .nil, .nil], .agg [.lit (.int .i64 0), .lit (.int .i64 0), .lit (.string []), .agg [.lit (.int .i64 0), .lit (.string []), .lit (.string []), .nil, .nil], .nil, .nil]], [], places) :=
  ⟨[], by kernel_rfl⟩

set_option maxRecDepth 100000 in
theorem lifted (os : Os) (started : os.Started) (H : Type) (enc : TypeId × Value → H) (F : Stop.Interp) :
    ReturnsInHanded {} Tryz.checked os 4 .any ((Rows.OpenSpec.upto Rows.showUnlikeSpec).preRow enc Tryz.prog Tryz.f4 Rows.showUnlikeUptoRow.domain false Rows.showUnlikeUptoRow.laid) (((Rows.OpenSpec.upto Rows.showUnlikeSpec).at F).post enc Tryz.prog Tryz.f4 false true false false) := by
  obtain ⟨places, hx⟩ := reads os enc
  refine returnsInHanded_of_row (C := Tryz.checked) (s := Rows.OpenSpec.upto Rows.showUnlikeSpec) own18 started (by kernel_rfl) Tryz.func4
    (witness_row_at (enc := enc) (C := Tryz.checked) false (laidWorld18 os) #[.agg #[.int .i64 0, .int .i64 0, .string .empty, .int .i64 0, .string .empty, .string .empty, .slice none 0 0, .slice none 0 0, .slice none 0 0, .slice none 0 0], .agg #[.int .i64 0, .int .i64 0, .string .empty, .int .i64 0, .string .empty, .string .empty, .slice none 0 0, .slice none 0 0, .slice none 0 0, .slice none 0 0]] rfl (by kernel_rfl) (by kernel_rfl) (by kernel_rfl)
      (OpenSpec.preRow_of_cond 8 hx (by kernel_rfl) (fun k hk => by cases hk; kernel_rfl) (by kernel_rfl) (laid_met18 os _))) ?_
  intro W base args ds gs before hval hW _ hcond hsz hL _ _
  exact contract H enc W base args ds gs before hval hW hL (hcond _ rfl) hsz

theorem said : Rows.ShowUnlikeUptoSaid :=
  OpenClaim.holds_of_cond 4 Tryz.f4 rfl rfl rfl rfl rfl rfl rfl ⟨rfl, rfl, rfl, rfl, rfl⟩ rfl rfl rfl rfl rfl (by kernel_rfl) Tryz.func4 (by kernel_rfl)
    (of_decide_eq_true (by kernel_rfl)) (by unfold Func.isWrapper; first | (rw [if_pos (by decide +kernel)]; kernel_rfl) | (rw [if_neg (by decide +kernel)]; exact ⟨rfl, rfl⟩))
    (fun os started H enc _ F => by rw [OpenClaim.pre_eq_preRow]; exact lifted os started H enc F)

theorem plain (f : FuncId) (fn : Func) (hf : Tryz.pinned.checked.prog.funcNamed "hallmark/hallmarklaw18.ShowUnlike" = some f) (hfn : Tryz.pinned.checked.prog.funcs[f]? = some fn) :
    true = Tryz.pinned.checked.prog.looks [] ∧ ∀ (j : Nat) t, fn.params[j]? = some t → Tryz.pinned.checked.prog.wantsStandIn t = false := by
  obtain rfl : f = 4 := Option.some.inj ((show Tryz.prog.funcNamed "hallmark/hallmarklaw18.ShowUnlike" = some 4 by kernel_rfl).symm.trans hf) |>.symm
  obtain rfl : fn = Tryz.f4 := (Option.some.inj (Tryz.func4.symm.trans hfn)).symm
  refine ⟨by kernel_rfl, fun j t ht => ?_⟩
  rw [Tryz.params4] at ht
  obtain rfl : t = 28 := by simpa using Array.mem_of_getElem? ht
  exact (show Tryz.prog.wantsStandIn 28 = false by kernel_rfl)

theorem card : Rows.ShowUnlikeUptoCardSaid :=
  Claim7.holds_tied_plain_at .later [] _ _ _ _ said (fun _ h => by cases h) (by kernel_rfl) (fun _ h => by cases h) showUnlikeUpto_row_tie rfl ⟨rfl, rfl⟩ (by kernel_rfl) rfl plain (by kernel_rfl)
end Go.Proofs.YtdjleoglphgdgaaGreatDoor.showUnlike
namespace Go.Proofs.YtdjleoglphgdgaaGreatDoor
theorem showUnlike_card : Rows.ShowUnlikeUptoCardSaid := showUnlike.card
end Go.Proofs.YtdjleoglphgdgaaGreatDoor
