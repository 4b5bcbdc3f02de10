import Derived.Test.YtapjfocjeligiaaGreatDoorRows
import Derived.Test.YtapjfocjeligiaaGreatDoorM18
import Derived.Test.YtapjfocjeligiaaGreatDoorM19
import Derived.WideKeyArgs
import Derived.WideKeyElems4
import Derived.Deep.Slices
import Derived.OpenShut
import Derived.WalkKit
namespace Go.Proofs.YtapjfocjeligiaaGreatDoor
open Go.ChangeShapes Go.WideShapes Go.RowKit
set_option linter.unusedVariables false

theorem bulk_memT {H : Type} {d : DataW H} : ∀ {l : List (DataW H)}, d ∈ l → Rows.uptoBulk d ≤ Rows.uptoBulkAll l
  | a :: r, h => by
    simp only [Rows.uptoBulkAll]
    rcases List.mem_cons.1 h with rfl | h
    · omega
    · have := bulk_memT h; omega
theorem bulk_posT {H : Type} (d : DataW H) : 1 ≤ Rows.uptoBulk d := by
  cases d with
  | lit l => cases l <;> simp [Rows.uptoBulk]
  | _ => simp [Rows.uptoBulk]
theorem bulk_lenT {H : Type} : ∀ (l : List (DataW H)), l.length ≤ Rows.uptoBulkAll l
  | [] => Nat.zero_le _
  | a :: r => by
    have := bulk_lenT r
    have := bulk_posT a
    simp only [Rows.uptoBulkAll, List.length_cons]; omega
theorem cells4T : Tryz.prog.cellsOf 4 = 1 := by kernel_rfl
theorem cellsSpT : Tryz.prog.cellsOf 23 = 2 := by kernel_rfl
theorem cellsTyT : Tryz.prog.cellsOf 29 = 9 := by kernel_rfl
theorem cellsArT : Tryz.prog.cellsOf 31 = 11 := by kernel_rfl
theorem cellsObT : Tryz.prog.cellsOf 60 = 12 := by kernel_rfl
theorem cellsSpsT : Tryz.prog.cellsOf 24 = 1 := by kernel_rfl
theorem cellsStsT : Tryz.prog.cellsOf 25 = 1 := by kernel_rfl
theorem cellsArsT : Tryz.prog.cellsOf 26 = 1 := by kernel_rfl
theorem cellsObsT : Tryz.prog.cellsOf 27 = 1 := by kernel_rfl
theorem cellsTysT : Tryz.prog.cellsOf 57 = 1 := by kernel_rfl
theorem cellsBosT : Tryz.prog.cellsOf 58 = 1 := by kernel_rfl

section
variable {H : Type} {enc : TypeId × Value → H} {W : World}

/-- a row, opened: each element as P says -/
theorem row_open {α : Type} [Inhabited α] {t e : TypeId} {k fuel : Nat} {cs : List Value} {x : DataW H × List MemPlace} (ht : Tryz.prog.underlying t = some (.slice e)) (hk : Tryz.prog.cellsOf e = k) (hk0 : 0 < k) (h : DataW.trod enc Tryz.prog W 0 (fun _ => true) true fuel t cs = some x) (P : α → List Value → Nat → Prop)
    (hel : ∀ (n : Nat) (cs' : List Value) (d : DataW H) (ps : List MemPlace), n < fuel → DataW.trod enc Tryz.prog W 0 (fun _ => true) true n e cs' = some (d, ps) → Rows.uptoBulk d ≤ Rows.uptoBulk x.1 → ∃ a, P a cs' (Rows.uptoBulk d)) :
    ∃ (io : Option Addr) (cap : Nat) (zs : List α) (g : Nat → Nat), cs = [.slice io zs.length cap] ∧ zs.length ≤ cap ∧ zs.length ≤ Rows.uptoBulk x.1 ∧ sumL ((List.range zs.length).map g) ≤ Rows.uptoBulk x.1 ∧ (0 < zs.length → ∃ b off, io = some ⟨b, off, none⟩ ∧ b < W.heap.size ∧ ∀ i, (hi : i < zs.length) → ∃ cs', P zs[i] cs' (g i) ∧ cs'.length = k ∧ ∀ j, j < k → W.cell? ⟨b, off + i * k + j, none⟩ = cs'[j]?) := by
  rcases elems_open ht h with ⟨e3, _⟩ | ⟨a, len, cap, n, elems, sp, hfn, e3, hlc, hlen, hd, hcell⟩
  · exact ⟨none, 0, [], fun _ => 0, e3, Nat.le_refl _, Nat.zero_le _, Nat.zero_le _, fun h => absurd h (by show ¬ 0 < 0; omega)⟩
  · have hbk : Rows.uptoBulkAll elems ≤ Rows.uptoBulk x.1 := by
      rw [hd]
      simp only [Rows.uptoBulk]
      omega
    have hbl := bulk_lenT elems
    obtain ⟨g, hg⟩ : ∃ g : Nat → Nat, ∀ i, (hi : i < elems.length) → g i = Rows.uptoBulk elems[i] := ⟨fun i => if hi : i < elems.length then Rows.uptoBulk elems[i] else 0, fun i hi => by simp [hi]⟩
    have hsum := bulk_sum (H := H) elems g (fun i hi => Nat.le_of_eq (hg i hi))
    rw [hlen] at hsum
    obtain ⟨f, hf⟩ := Go.Deep.choose_lt (α := α) (n := len) (p := fun i z => ∃ cs', P z cs' (g i) ∧ cs'.length = k ∧ ∀ j, j < k → W.cell? (a.add (i * k + j)) = cs'[j]?) (fun i hi => by
      obtain ⟨cs', ps, h1, h2⟩ := hcell i (by omega)
      rw [hk] at h1
      obtain ⟨_, hl, hc⟩ := World.cells?_some h1
      obtain ⟨z, hz⟩ := hel n cs' _ ps (by omega) h2 (Nat.le_trans (bulk_memT (List.getElem_mem _)) hbk)
      exact ⟨z, cs', by rw [hg i (by omega)]; exact hz, hl, fun j hj => by rw [← Go.Deep.add_add]; exact hc j hj⟩)
    refine ⟨some a, cap, (List.range len).map f, g, by rw [e3]; simp, by simpa using hlc, by simp; omega, by simp only [List.length_map, List.length_range]; omega, fun hp => ?_⟩
    have hp' : 0 < len := by simpa using hp
    obtain ⟨cs0, hP0, hl0, hc0⟩ := hf 0 hp'
    have hc00 := hc0 0 hk0
    rw [List.getElem?_eq_getElem (by omega)] at hc00
    obtain ⟨b, off, spot⟩ := a
    have hspot : spot = none := by
      have : W.cell? ((⟨b, off, spot⟩ : Addr).add 0) = some (cs0[0]'(by omega)) := by simpa using hc00
      simpa [Addr.add] using World.cell?_spot this
    subst hspot
    refine ⟨b, off, rfl, ?_, fun i hi => ?_⟩
    · have : W.cell? ((⟨b, off, none⟩ : Addr).add 0) = some (cs0[0]'(by omega)) := by simpa using hc00
      have h := World.block_lt_of_cell? W _ this
      simpa [Addr.add] using h
    · have hi' : i < len := by simpa using hi
      obtain ⟨cs', hP, hl, hc⟩ := hf i hi'
      refine ⟨cs', by simpa using hP, hl, fun j hj => ?_⟩
      have := hc j hj
      rw [Go.WideShapes.add_plain, ← Nat.add_assoc] at this
      exact this
end
instance : Inhabited TT := ⟨.mk false false false false false [] [] [] []⟩
instance : Inhabited AR := ⟨.mk default 0 0⟩
instance : Inhabited OB := ⟨.mk [] [] [] default⟩

section
variable {H : Type} {enc : TypeId × Value → H} {W : World}

set_option maxRecDepth 100000 in
theorem spans_open {fuel : Nat} {cs : List Value} {x : DataW H × List MemPlace} (h : DataW.trod enc Tryz.prog W 0 (fun _ => true) true fuel 24 cs = some x) :
    ∃ (io : Option Addr) (cap : Nat) (ps : List (ByteArray × ByteArray)), cs = [.slice io ps.length cap] ∧ ps.length ≤ cap ∧ ps.length ≤ Rows.uptoBulk x.1 ∧ (∀ p ∈ ps, p.1.size ≤ Rows.uptoBulk x.1 ∧ p.2.size ≤ Rows.uptoBulk x.1) ∧ SpIn W io ps := by
  obtain ⟨io, cap, ps, _, h1, h2, h3, _, h4⟩ := row_open (α := ByteArray × ByteArray) Tryz.underlying24 cellsSpT (by omega) h (fun p cs' _ => cs' = [.string p.1, .string p.2] ∧ p.1.size ≤ Rows.uptoBulk x.1 ∧ p.2.size ≤ Rows.uptoBulk x.1) (by
    intro n cs' d ps hn ht hb
    obtain ⟨xs, m, rfl, hd, hl, hxn, hi⟩ := DataW.trod_struct Tryz.underlying23 ht
    rw [cellsSpT] at hl
    have hn2 : xs.length = 2 := hxn
    have h0 := hi 0 _ rfl
    have h1 := hi 1 _ rfl
    match xs, hn2, cs', hl with
    | [y0, y1], _, [v0, v1], _ =>
      simp [g_cells9] at h0 h1
      obtain ⟨A, e0, d0, _⟩ := DataW.trod_string Tryz.underlying9 h0
      obtain ⟨B, e1, d1, _⟩ := DataW.trod_string Tryz.underlying9 h1
      simp at e0 e1
      subst e0 e1
      have l0 : A.data.toList.length = A.size := by rw [Array.length_toList]; rfl
      have l1 : B.data.toList.length = B.size := by rw [Array.length_toList]; rfl
      have hd' : d = _ := congrArg Prod.fst hd
      rw [hd'] at hb
      simp only [List.map_cons, List.map_nil, Rows.uptoBulk, Rows.uptoBulkAll, d0, d1] at hb
      exact ⟨(A, B), rfl, by show A.size ≤ _; omega, by show B.size ≤ _; omega⟩)
  refine ⟨io, cap, ps, h1, h2, h3, ?_, ⟨fun h0 => ?_⟩⟩
  · intro p hp
    obtain ⟨i, hi, rfl⟩ := List.getElem_of_mem hp
    obtain ⟨b, off, _, _, hc⟩ := h4 (by omega)
    obtain ⟨cs', hP, _⟩ := hc i hi
    exact hP.2
  · obtain ⟨b, off, e, hl, hc⟩ := h4 h0
    refine ⟨b, off, e, hl, fun i hi => ?_⟩
    obtain ⟨cs', hP, _, hcell⟩ := hc i hi
    rw [hP.1] at hcell
    exact ⟨hcell 0 (by omega), hcell 1 (by omega)⟩
theorem bools_open {fuel : Nat} {cs : List Value} {x : DataW H × List MemPlace} (h : DataW.trod enc Tryz.prog W 0 (fun _ => true) true fuel 58 cs = some x) :
    ∃ (io : Option Addr) (cap : Nat) (bs : List Bool), cs = [.slice io bs.length cap] ∧ bs.length ≤ cap ∧ bs.length ≤ Rows.uptoBulk x.1 ∧ BoIn W io bs := by
  obtain ⟨io, cap, bs, _, h1, h2, h3, _, h4⟩ := row_open (α := Bool) Tryz.underlying58 cells4T (by omega) h (fun p cs' _ => cs' = [.bool p]) (by
    intro n cs' d ps hn ht hb
    obtain ⟨z, hz, _⟩ := DataW.trod_bool Tryz.underlying4 ht
    exact ⟨z, hz⟩)
  refine ⟨io, cap, bs, h1, h2, h3, ⟨fun h0 => ?_⟩⟩
  obtain ⟨b, off, e, hl, hc⟩ := h4 h0
  refine ⟨b, off, e, hl, fun i hi => ?_⟩
  obtain ⟨cs', hP, _, hcell⟩ := hc i hi
  rw [hP] at hcell
  have := hcell 0 (by omega)
  simpa using this
theorem texts_open {fuel : Nat} {cs : List Value} {x : DataW H × List MemPlace} (h : DataW.trod enc Tryz.prog W 0 (fun _ => true) true fuel 25 cs = some x) :
    ∃ (io : Option Addr) (cap : Nat) (ks : List ByteArray), cs = [.slice io ks.length cap] ∧ ks.length ≤ cap ∧ ks.length ≤ Rows.uptoBulk x.1 ∧ (∀ k ∈ ks, k.size ≤ Rows.uptoBulk x.1) ∧ KIn W io ks := by
  obtain ⟨io, cap, ks, _, h1, h2, h3, _, h4⟩ := row_open (α := ByteArray) Tryz.underlying25 g_cells9 (by omega) h (fun p cs' _ => cs' = [.string p] ∧ p.size ≤ Rows.uptoBulk x.1) (by
    intro n cs' d ps hn ht hb
    obtain ⟨A, hz, hd, _⟩ := DataW.trod_string Tryz.underlying9 ht
    have l0 : A.data.toList.length = A.size := by rw [Array.length_toList]; rfl
    have hd' : d = _ := congrArg Prod.fst hd
    rw [hd'] at hb
    simp only [Rows.uptoBulk] at hb
    exact ⟨A, hz, by omega⟩)
  refine ⟨io, cap, ks, h1, h2, h3, ?_, ⟨fun h0 => ?_⟩⟩
  · intro p hp
    obtain ⟨i, hi, rfl⟩ := List.getElem_of_mem hp
    obtain ⟨b, off, _, _, hc⟩ := h4 (by omega)
    obtain ⟨cs', hP, _⟩ := hc i hi
    exact hP.2
  · obtain ⟨b, off, e, hl, hc⟩ := h4 h0
    refine ⟨b, off, e, hl, fun i hi => ?_⟩
    obtain ⟨cs', hP, _, hcell⟩ := hc i hi
    rw [hP.1] at hcell
    have := hcell 0 (by omega)
    have hg : ks.getD i .empty = ks[i] := by simp [List.getD, hi]
    rw [hg]
    simpa using this
end
end Go.Proofs.YtapjfocjeligiaaGreatDoor
namespace Go.Proofs.YtapjfocjeligiaaGreatDoor
open Go.ChangeShapes Go.WideShapes Go.RowKit
set_option linter.unusedVariables false

/-- how many parts a type has -/
def tpN : Nat → TT → Nat
  | 0, _ => 0
  | h + 1, T => 1 + T.texts.length + T.nums.length + sumL (T.arrs.map fun a => tpN h a.item) + sumL (T.objs.map fun o => o.names.length + o.must.length + tpN h o.rest + sumL (o.fields.map (tpN h)))
theorem InT.tpUp {W : World} : ∀ {n m : Nat} {T : TT} {v : Value}, InT W n T v → n ≤ m → tpN m T = tpN n T
  | 0, _, _, _, h, _ => h.elim
  | n + 1, 0, _, _, _, hm => absurd hm (by omega)
  | n + 1, m + 1, T, v, h, hm => by
    obtain ⟨no, nc, xo, xc, ao, ac, oo, oc, e, a1, a2, a3, a4, hs, hk, ha, ho⟩ := h
    have e1 : sumL (T.arrs.map fun a => tpN m a.item) = sumL (T.arrs.map fun a => tpN n a.item) := sumL_congr T.arrs (fun a hm2 => by
      obtain ⟨i, hil, rfl⟩ := List.getElem_of_mem hm2
      obtain ⟨b, off, _, _, hc⟩ := ha (by omega)
      obtain ⟨c0, c1, c2, c3, c4, c5, c6, c7, c8, _, _, _, h4⟩ := hc i hil
      exact h4.tpUp (by omega))
    have e2 : sumL (T.objs.map fun o => o.names.length + o.must.length + tpN m o.rest + sumL (o.fields.map (tpN m))) = sumL (T.objs.map fun o => o.names.length + o.must.length + tpN n o.rest + sumL (o.fields.map (tpN n))) := sumL_congr T.objs (fun o hm2 => by
      obtain ⟨i, hil, rfl⟩ := List.getElem_of_mem hm2
      obtain ⟨b, off, _, _, hc⟩ := ho (by omega)
      obtain ⟨ko, kc, fo, fc, mo, mc, c0, c1, c2, c3, c4, c5, c6, c7, c8, _, _, _, _, _, _, h6, h7⟩ := hc i hil
      have e3 : sumL (T.objs[i].fields.map (tpN m)) = sumL (T.objs[i].fields.map (tpN n)) := sumL_congr _ (fun f hf => by
        obtain ⟨j, hj, rfl⟩ := List.getElem_of_mem hf
        obtain ⟨b2, off2, _, _, hd⟩ := h6 (by omega)
        obtain ⟨d0, d1, d2, d3, d4, d5, d6, d7, d8, _, k2⟩ := hd j hj
        exact k2.tpUp (by omega))
      rw [h7.tpUp (show n ≤ m by omega), e3])
    show 1 + _ + _ + sumL (T.arrs.map fun a => tpN m a.item) + sumL (T.objs.map fun o => o.names.length + o.must.length + tpN m o.rest + sumL (o.fields.map (tpN m))) = _
    rw [e1, e2]
    rfl
theorem sum_idx {α : Type} (f : α → Nat) : ∀ (zs : List α) (g : Nat → Nat), (∀ i, (hi : i < zs.length) → f zs[i] ≤ g i) → sumL (zs.map f) ≤ sumL ((List.range zs.length).map g)
  | [], g, _ => Nat.le_refl _
  | z :: zs, g, h => by
    have ih := sum_idx f zs (fun i => g (i + 1)) (fun i hi => h (i + 1) (by simpa using hi))
    have h0 := h 0 (by simp)
    rw [List.length_cons, sumL_range_succ, List.map_cons]
    show f z + sumL (zs.map f) ≤ _
    have h0' : f z ≤ g 0 := h0
    omega

section
variable {H : Type} {enc : TypeId × Value → H} {W : World}

/-- a type's cells, as they are opened -/
def TyP (W : World) (m : Nat) (T : TT) (cs : List Value) (B : Nat) : Prop := tpN m T ≤ B ∧ ∃ c0 c1 c2 c3 c4 c5 c6 c7 c8 : Value, cs = [c0, c1, c2, c3, c4, c5, c6, c7, c8] ∧ InT W m T (.agg #[c0, c1, c2, c3, c4, c5, c6, c7, c8])
def ArP (W : World) (m : Nat) (a : AR) (cs : List Value) (B : Nat) : Prop := tpN m a.item ≤ B ∧ ∃ c0 c1 c2 c3 c4 c5 c6 c7 c8 : Value, cs = [c0, c1, c2, c3, c4, c5, c6, c7, c8, .int .i64 a.min, .int .i64 a.max] ∧ InT W m a.item (.agg #[c0, c1, c2, c3, c4, c5, c6, c7, c8])
def ObP (W : World) (m : Nat) (o : OB) (cs : List Value) (B : Nat) : Prop := o.names.length + o.must.length + tpN m o.rest + sumL (o.fields.map (tpN m)) ≤ B ∧ ∃ (ko : Option Addr) (kc : Nat) (fo : Option Addr) (fc : Nat) (mo : Option Addr) (mc : Nat) (c0 c1 c2 c3 c4 c5 c6 c7 c8 : Value),
  cs = [.slice ko o.names.length kc, .slice fo o.fields.length fc, .slice mo o.must.length mc, c0, c1, c2, c3, c4, c5, c6, c7, c8] ∧
  (o.names.length ≤ kc ∧ o.fields.length ≤ fc ∧ o.must.length ≤ mc) ∧
  (o.names.length ≤ 140737488355328 ∧ o.fields.length ≤ 140737488355328 ∧ o.must.length ≤ 140737488355328 ∧ ∀ k ∈ o.names, k.size ≤ 140737488355328) ∧
  KIn W ko o.names ∧ BoIn W mo o.must ∧
  (0 < o.fields.length → ∃ b2 off2, fo = some ⟨b2, off2, none⟩ ∧ b2 < W.heap.size ∧ ∀ j, (hj : j < o.fields.length) → ∃ d0 d1 d2 d3 d4 d5 d6 d7 d8 : Value,
    C9 W b2 (off2 + j * 9) d0 d1 d2 d3 d4 d5 d6 d7 d8 ∧ InT W m o.fields[j] (.agg #[d0, d1, d2, d3, d4, d5, d6, d7, d8])) ∧
  InT W m o.rest (.agg #[c0, c1, c2, c3, c4, c5, c6, c7, c8])
/-- what is known of lesser fuel -/
def TyIH (enc : TypeId × Value → H) (W : World) (fuel : Nat) : Prop := ∀ (n : Nat) (cs : List Value) (x : DataW H × List MemPlace), n < fuel → DataW.trod enc Tryz.prog W 0 (fun _ => true) true n 29 cs = some x → Rows.uptoBulk x.1 ≤ 1048576 → ∃ T, TyP W n T cs (Rows.uptoBulk x.1)

theorem c9_of {b o : Nat} {c0 c1 c2 c3 c4 c5 c6 c7 c8 : Value} (h : ∀ j, j < 9 → W.cell? ⟨b, o + j, none⟩ = ([c0, c1, c2, c3, c4, c5, c6, c7, c8] : List Value)[j]?) : C9 W b o c0 c1 c2 c3 c4 c5 c6 c7 c8 :=
  ⟨h 0 (by omega), h 1 (by omega), h 2 (by omega), h 3 (by omega), h 4 (by omega), h 5 (by omega), h 6 (by omega), h 7 (by omega), h 8 (by omega)⟩

set_option maxRecDepth 100000 in
theorem arr_el {fuel m : Nat} (ih : TyIH enc W fuel) (hm : fuel ≤ m + 1) {n : Nat} {cs : List Value} {d : DataW H} {ps : List MemPlace} (hn : n < fuel) (ht : DataW.trod enc Tryz.prog W 0 (fun _ => true) true n 31 cs = some (d, ps)) (hb : Rows.uptoBulk d ≤ 1048576) : ∃ a, ArP W m a cs (Rows.uptoBulk d) := by
  obtain ⟨xs, q, rfl, hd, hl, hxn, hi⟩ := DataW.trod_struct Tryz.underlying31 ht
  rw [cellsArT] at hl
  have hn3 : xs.length = 3 := hxn
  have h0 := hi 0 _ rfl
  have h1 := hi 1 _ rfl
  have h2 := hi 2 _ rfl
  match xs, hn3, cs, hl with
  | [y0, y1, y2], _, [v0, v1, v2, v3, v4, v5, v6, v7, v8, v9, v10], _ =>
    simp [cellsTyT, g_cells3] at h0 h1 h2
    have hd' : d = _ := congrArg Prod.fst hd
    rw [hd'] at hb ⊢
    simp only [List.map_cons, List.map_nil, Rows.uptoBulk, Rows.uptoBulkAll] at hb ⊢
    obtain ⟨T, hTp, c0, c1, c2, c3, c4, c5, c6, c7, c8, e, hI⟩ := ih q _ _ (by omega) h0 (by omega)
    obtain ⟨z1, e1, _, _⟩ := DataW.trod_int Tryz.underlying3 h1
    obtain ⟨z2, e2, _, _⟩ := DataW.trod_int Tryz.underlying3 h2
    simp at e e1 e2
    obtain ⟨rfl, rfl, rfl, rfl, rfl, rfl, rfl, rfl, rfl⟩ := e
    subst e1 e2
    exact ⟨.mk T z1 z2, by show tpN m T ≤ _; rw [hI.tpUp (show q ≤ m by omega)]; omega, _, _, _, _, _, _, _, _, _, rfl, hI.le (by omega)⟩

set_option maxRecDepth 100000 in
theorem obj_el {fuel m : Nat} (ih : TyIH enc W fuel) (hm : fuel ≤ m + 1) {n : Nat} {cs : List Value} {d : DataW H} {ps : List MemPlace} (hn : n < fuel) (ht : DataW.trod enc Tryz.prog W 0 (fun _ => true) true n 60 cs = some (d, ps)) (hb : Rows.uptoBulk d ≤ 1048576) : ∃ o, ObP W m o cs (Rows.uptoBulk d) := by
  obtain ⟨xs, q, rfl, hd, hl, hxn, hi⟩ := DataW.trod_struct Tryz.underlying60 ht
  rw [cellsObT] at hl
  have hn4 : xs.length = 4 := hxn
  have h0 := hi 0 _ rfl
  have h1 := hi 1 _ rfl
  have h2 := hi 2 _ rfl
  have h3 := hi 3 _ rfl
  match xs, hn4, cs, hl with
  | [y0, y1, y2, y3], _, [v0, v1, v2, v3, v4, v5, v6, v7, v8, v9, v10, v11], _ =>
    simp [cellsTyT, cellsStsT, cellsTysT, cellsBosT] at h0 h1 h2 h3
    have hd' : d = _ := congrArg Prod.fst hd
    rw [hd'] at hb ⊢
    simp only [List.map_cons, List.map_nil, Rows.uptoBulk, Rows.uptoBulkAll] at hb ⊢
    obtain ⟨ko, kc, ks, e0, k1, k2, k3, k4⟩ := texts_open h0
    obtain ⟨fo, fc, fs, fg, e1, f1, f2, fsm, f3⟩ := row_open (α := TT) Tryz.underlying57 cellsTyT (by omega) h1 (fun T cs' B => TyP W m T cs' B) (by
      intro n' cs' d' ps' hn' ht' hb'
      obtain ⟨T, hTp, c0, c1, c2, c3, c4, c5, c6, c7, c8, e, hI⟩ := ih n' cs' _ (by omega) ht' (by show Rows.uptoBulk d' ≤ _; omega)
      exact ⟨T, by rw [hI.tpUp (show n' ≤ m by omega)]; exact hTp, c0, c1, c2, c3, c4, c5, c6, c7, c8, e, hI.le (by omega)⟩)
    obtain ⟨mo, mc, bs, e2, m1, m2, m3⟩ := bools_open h2
    obtain ⟨R, hRp, c0, c1, c2, c3, c4, c5, c6, c7, c8, e3, hR⟩ := ih q _ _ (by omega) h3 (by omega)
    simp at e0 e1 e2 e3
    obtain ⟨rfl, rfl, rfl, rfl, rfl, rfl, rfl, rfl, rfl⟩ := e3
    subst e0 e1 e2
    have hfs : sumL (fs.map (tpN m)) ≤ sumL ((List.range fs.length).map fg) := sum_idx (tpN m) fs fg (fun i hi => by
      obtain ⟨b2, off2, _, _, hc⟩ := f3 (by omega)
      obtain ⟨cs', hP, _⟩ := hc i hi
      exact hP.1)
    refine ⟨.mk ks fs bs R, by show ks.length + bs.length + tpN m R + sumL (fs.map (tpN m)) ≤ _; rw [hR.tpUp (show q ≤ m by omega)]; omega, ko, kc, fo, fc, mo, mc, _, _, _, _, _, _, _, _, _, rfl, ⟨k1, f1, m1⟩, ⟨?_, ?_, ?_, fun k hk => ?_⟩, k4, m3, fun hf => ?_, hR.le (by omega)⟩
    · show ks.length ≤ _; omega
    · show fs.length ≤ _; omega
    · show bs.length ≤ _; omega
    · have := k3 k hk; omega
    · obtain ⟨b2, off2, e, hl2, hc⟩ := f3 hf
      refine ⟨b2, off2, e, hl2, fun j hj => ?_⟩
      obtain ⟨cs', ⟨_, d0, d1, d2, d3, d4, d5, d6, d7, d8, rfl, hT⟩, _, hcell⟩ := hc j hj
      exact ⟨d0, d1, d2, d3, d4, d5, d6, d7, d8, c9_of hcell, hT⟩

set_option maxRecDepth 100000 in
/-- a type as it is handed in, as a tree -/
theorem tt_open : ∀ (fuel : Nat) (cs : List Value) (x : DataW H × List MemPlace), DataW.trod enc Tryz.prog W 0 (fun _ => true) true fuel 29 cs = some x → Rows.uptoBulk x.1 ≤ 1048576 → ∃ T, TyP W fuel T cs (Rows.uptoBulk x.1) := by
  intro fuel
  induction fuel using Nat.strongRecOn with
  | ind fuel ih =>
  intro cs x h hbk
  have ih' : TyIH enc W fuel := fun n cs' x' hn ht hb => ih n hn cs' x' ht hb
  clear ih
  obtain ⟨xs, m, hfu, hx, hl, hn, hi⟩ := DataW.trod_struct Tryz.underlying29 h
  rw [cellsTyT] at hl
  have hn9 : xs.length = 9 := hn
  have h0 := hi 0 _ rfl
  have h1 := hi 1 _ rfl
  have h2 := hi 2 _ rfl
  have h3 := hi 3 _ rfl
  have h4 := hi 4 _ rfl
  have h5 := hi 5 _ rfl
  have h6 := hi 6 _ rfl
  have h7 := hi 7 _ rfl
  have h8 := hi 8 _ rfl
  match xs, hn9, cs, hl with
  | [y0, y1, y2, y3, y4, y5, y6, y7, y8], _, [v0, v1, v2, v3, v4, v5, v6, v7, v8], _ =>
    simp [cells4T, cellsSpsT, cellsStsT, cellsArsT, cellsObsT] at h0 h1 h2 h3 h4 h5 h6 h7 h8
    rw [hx] at hbk ⊢
    simp only [List.map_cons, List.map_nil, Rows.uptoBulk, Rows.uptoBulkAll] at hbk ⊢
    have hb0 := bulk_posT y0.1
    obtain ⟨b0, e0, _⟩ := DataW.trod_bool Tryz.underlying4 h0
    obtain ⟨b1, e1, _⟩ := DataW.trod_bool Tryz.underlying4 h1
    obtain ⟨b2, e2, _⟩ := DataW.trod_bool Tryz.underlying4 h2
    obtain ⟨b3, e3, _⟩ := DataW.trod_bool Tryz.underlying4 h3
    obtain ⟨no, nc, ns, e4, n1, n2, n3, n4⟩ := spans_open h4
    obtain ⟨b5, e5, _⟩ := DataW.trod_bool Tryz.underlying4 h5
    obtain ⟨xo, xc, ts, e6, t1, t2, t3, t4⟩ := texts_open h6
    obtain ⟨ao, ac, rs, rg, e7, r1, r2, rsm, r3⟩ := row_open (α := AR) Tryz.underlying26 cellsArT (by omega) h7 (fun a cs' B => ArP W m a cs' B) (fun n cs' d ps hn' ht hb => arr_el ih' (by omega) (by omega) ht (by omega))
    obtain ⟨oo, oc, os, og, e8, o1, o2, osm, o3⟩ := row_open (α := OB) Tryz.underlying27 cellsObT (by omega) h8 (fun o cs' B => ObP W m o cs' B) (fun n cs' d ps hn' ht hb => obj_el ih' (by omega) (by omega) ht (by omega))
    simp at e0 e1 e2 e3 e4 e5 e6 e7 e8
    subst e0 e1 e2 e3 e4 e5 e6 e7 e8
    have hrs : sumL (rs.map fun a => tpN m a.item) ≤ sumL ((List.range rs.length).map rg) := sum_idx (fun a : AR => tpN m a.item) rs rg (fun i hi' => by
      obtain ⟨b, off, _, _, hc⟩ := r3 (by omega)
      obtain ⟨cs', hP, _⟩ := hc i hi'
      exact hP.1)
    have hos : sumL (os.map fun o => o.names.length + o.must.length + tpN m o.rest + sumL (o.fields.map (tpN m))) ≤ sumL ((List.range os.length).map og) := sum_idx (fun o : OB => o.names.length + o.must.length + tpN m o.rest + sumL (o.fields.map (tpN m))) os og (fun i hi' => by
      obtain ⟨b, off, _, _, hc⟩ := o3 (by omega)
      obtain ⟨cs', hP, _⟩ := hc i hi'
      exact hP.1)
    refine ⟨.mk b0 b1 b2 b3 b5 ns ts rs os, ?_, _, _, _, _, _, _, _, _, _, rfl, ?_⟩
    · rw [hfu]
      show 1 + ts.length + ns.length + sumL (rs.map fun a => tpN m a.item) + sumL (os.map fun o => o.names.length + o.must.length + tpN m o.rest + sumL (o.fields.map (tpN m))) ≤ _
      omega
    rw [hfu]
    refine ⟨no, nc, xo, xc, ao, ac, oo, oc, rfl, ⟨n1, t1, r1, o1⟩, ⟨?_, ?_, ?_, ?_⟩, fun p hp => ?_, fun k hk => ?_, n4, t4, fun hp => ?_, fun hp => ?_⟩
    · show ns.length ≤ _; omega
    · show ts.length ≤ _; omega
    · show rs.length ≤ _; omega
    · show os.length ≤ _; omega
    · have := n3 p hp; omega
    · have := t3 k hk; omega
    · obtain ⟨b, off, e, hl2, hc⟩ := r3 hp
      refine ⟨b, off, e, hl2, fun i hi' => ?_⟩
      obtain ⟨cs', ⟨_, c0, c1, c2, c3, c4, c5, c6, c7, c8, rfl, hT⟩, _, hcell⟩ := hc i hi'
      exact ⟨c0, c1, c2, c3, c4, c5, c6, c7, c8, ⟨hcell 0 (by omega), hcell 1 (by omega), hcell 2 (by omega), hcell 3 (by omega), hcell 4 (by omega), hcell 5 (by omega), hcell 6 (by omega), hcell 7 (by omega), hcell 8 (by omega)⟩, hcell 9 (by omega), hcell 10 (by omega), hT⟩
    · obtain ⟨b, off, e, hl2, hc⟩ := o3 hp
      refine ⟨b, off, e, hl2, fun i hi' => ?_⟩
      obtain ⟨cs', ⟨_, ko, kc, fo, fc, mo, mc, c0, c1, c2, c3, c4, c5, c6, c7, c8, rfl, p1, p2, p3, p4, p5, p6⟩, _, hcell⟩ := hc i hi'
      have sh : ∀ j, j < 9 → W.cell? ⟨b, off + i * 12 + 3 + j, none⟩ = ([c0, c1, c2, c3, c4, c5, c6, c7, c8] : List Value)[j]? := by
        intro j hj
        have := hcell (3 + j) (by omega)
        rw [← Nat.add_assoc] at this
        rw [this]
        rcases (show j = 0 ∨ j = 1 ∨ j = 2 ∨ j = 3 ∨ j = 4 ∨ j = 5 ∨ j = 6 ∨ j = 7 ∨ j = 8 by omega) with rfl | rfl | rfl | rfl | rfl | rfl | rfl | rfl | rfl <;> rfl
      exact ⟨ko, kc, fo, fc, mo, mc, c0, c1, c2, c3, c4, c5, c6, c7, c8, ⟨hcell 0 (by omega), hcell 1 (by omega), hcell 2 (by omega)⟩, c9_of sh, p1, p2, p3, p4, p5, p6⟩
end
end Go.Proofs.YtapjfocjeligiaaGreatDoor
namespace Go.Proofs.YtapjfocjeligiaaGreatDoor
open Go.RowKit
set_option linter.unusedVariables false
set_option linter.unusedSimpArgs false

/-- counting on, as long as it is few -/
def gaG {α : Type} (most : Int) (g : α → Int → Int) : List α → Int → Int
  | [], n => n
  | a :: r, n => if n ≤ most then gaG most g r (g a n) else n
/-- what typeParts answers -/
def ptF : Nat → TT → Int → Int
  | 0, _, _ => 0
  | h + 1, T, most => gaG most (fun o n => gaG most (fun t n => n + ptF h t (most - n)) o.fields (n + (o.names.length : Int) + (o.must.length : Int) + ptF h o.rest (most - n))) T.objs (gaG most (fun a n => n + ptF h a.item (most - n)) T.arrs (1 + (T.texts.length : Int) + (T.nums.length : Int)))
theorem gaG_le {α : Type} {most : Int} {g : α → Int → Int} {c : α → Nat} : ∀ (l : List α), (∀ a ∈ l, ∀ n, 0 ≤ n → n ≤ most → n ≤ g a n ∧ g a n ≤ n + (c a : Int)) → ∀ n, 0 ≤ n → n ≤ gaG most g l n ∧ gaG most g l n ≤ n + ((sumL (l.map c) : Nat) : Int)
  | [], h, n, hn => ⟨Int.le_refl _, by show n ≤ n + ((0 : Nat) : Int); omega⟩
  | a :: r, h, n, hn => by
    unfold gaG
    by_cases hm : n ≤ most
    · rw [if_pos hm]
      have h1 := h a (List.mem_cons_self ..) n hn hm
      have h2 := gaG_le r (fun b hb => h b (List.mem_cons_of_mem _ hb)) (g a n) (by omega)
      rw [List.map_cons]
      show _ ∧ _ ≤ n + ((c a + sumL (r.map c) : Nat) : Int)
      omega
    · rw [if_neg hm]
      rw [List.map_cons]
      show _ ∧ _ ≤ n + ((c a + sumL (r.map c) : Nat) : Int)
      omega
theorem pt_le : ∀ (h : Nat) (T : TT) (most : Int), 0 ≤ ptF h T most ∧ ptF h T most ≤ (tpN h T : Int)
  | 0, T, most => ⟨Int.le_refl _, by show (0 : Int) ≤ ((0 : Nat) : Int); omega⟩
  | h + 1, T, most => by
    have hA := gaG_le (most := most) (g := fun (a : AR) n => n + ptF h a.item (most - n)) (c := fun a => tpN h a.item) T.arrs (fun a _ n hn _ => by have := pt_le h a.item (most - n); show _ ∧ n + _ ≤ _; omega) (1 + (T.texts.length : Int) + (T.nums.length : Int)) (by omega)
    have hO := gaG_le (most := most) (g := fun (o : OB) n => gaG most (fun t n => n + ptF h t (most - n)) o.fields (n + (o.names.length : Int) + (o.must.length : Int) + ptF h o.rest (most - n))) (c := fun o => o.names.length + o.must.length + tpN h o.rest + sumL (o.fields.map (tpN h))) T.objs (fun o _ n hn _ => by
      have h1 := pt_le h o.rest (most - n)
      have h2 := gaG_le (most := most) (g := fun (t : TT) n => n + ptF h t (most - n)) (c := tpN h) o.fields (fun t _ n hn _ => by have := pt_le h t (most - n); show _ ∧ n + _ ≤ _; omega) (n + (o.names.length : Int) + (o.must.length : Int) + ptF h o.rest (most - n)) (by omega)
      show n ≤ gaG most _ o.fields _ ∧ gaG most _ o.fields _ ≤ n + ((o.names.length + o.must.length + tpN h o.rest + sumL (o.fields.map (tpN h)) : Nat) : Int)
      omega) (gaG most (fun a n => n + ptF h a.item (most - n)) T.arrs (1 + (T.texts.length : Int) + (T.nums.length : Int))) (by omega)
    show 0 ≤ gaG most _ T.objs _ ∧ gaG most _ T.objs _ ≤ ((1 + T.texts.length + T.nums.length + sumL (T.arrs.map fun a => tpN h a.item) + sumL (T.objs.map fun o => o.names.length + o.must.length + tpN h o.rest + sumL (o.fields.map (tpN h))) : Nat) : Int)
    omega
/-- few, or more than that -/
theorem gaG_few {α : Type} {most : Int} {g : α → Int → Int} {c : α → Nat} : ∀ (l : List α), (∀ a ∈ l, ∀ n, 0 ≤ n → n ≤ most → (n + (c a : Int) ≤ most → g a n = n + (c a : Int)) ∧ (most < n + (c a : Int) → most < g a n) ∧ 0 ≤ g a n) → ∀ n, 0 ≤ n → (n + ((sumL (l.map c) : Nat) : Int) ≤ most → gaG most g l n = n + ((sumL (l.map c) : Nat) : Int)) ∧ (most < n + ((sumL (l.map c) : Nat) : Int) → most < gaG most g l n)
  | [], h, n, hn => by
    show (n + ((0 : Nat) : Int) ≤ most → n = n + ((0 : Nat) : Int)) ∧ (most < n + ((0 : Nat) : Int) → most < n)
    omega
  | a :: r, h, n, hn => by
    unfold gaG
    rw [List.map_cons]
    show (n + ((c a + sumL (r.map c) : Nat) : Int) ≤ most → _ = n + ((c a + sumL (r.map c) : Nat) : Int)) ∧ (most < n + ((c a + sumL (r.map c) : Nat) : Int) → _)
    by_cases hm : n ≤ most
    · rw [if_pos hm]
      obtain ⟨h1, h2, h3⟩ := h a (List.mem_cons_self ..) n hn hm
      have ih := gaG_few r (fun b hb => h b (List.mem_cons_of_mem _ hb)) (g a n) h3
      have hgt : most < g a n → gaG most g r (g a n) = g a n := fun hg => by
        cases r with
        | nil => rfl
        | cons b r => unfold gaG; rw [if_neg (by omega)]
      refine ⟨fun hle => ?_, fun hle => ?_⟩
      · have e1 := h1 (by omega)
        rw [e1] at ih ⊢
        have := ih.1 (by omega)
        omega
      · by_cases h4 : n + (c a : Int) ≤ most
        · have e1 := h1 h4
          rw [e1] at ih ⊢
          exact ih.2 (by omega)
        · have e2 := h2 (by omega)
          rw [hgt e2]
          exact e2
    · rw [if_neg hm]
      omega
theorem pt_few : ∀ (h : Nat) (T : TT) (most : Int), 0 ≤ most → ((tpN h T : Int) ≤ most → ptF h T most = (tpN h T : Int)) ∧ (most < (tpN h T : Int) → most < ptF h T most)
  | 0, T, most, h0 => ⟨fun _ => rfl, fun h => absurd h (by show ¬ most < ((0 : Nat) : Int); omega)⟩
  | h + 1, T, most, h0 => by
    have hA := gaG_few (most := most) (g := fun (a : AR) n => n + ptF h a.item (most - n)) (c := fun a => tpN h a.item) T.arrs (fun a _ n hn hm => by
      have h1 := pt_few h a.item (most - n) (by omega)
      have h2 := pt_le h a.item (most - n)
      refine ⟨fun hle => ?_, fun hle => ?_, ?_⟩
      · show n + _ = _; rw [h1.1 (by omega)]
      · show most < n + _; have := h1.2 (by omega); omega
      · show 0 ≤ n + _; omega) (1 + (T.texts.length : Int) + (T.nums.length : Int)) (by omega)
    have hAle := gaG_le (most := most) (g := fun (a : AR) n => n + ptF h a.item (most - n)) (c := fun a => tpN h a.item) T.arrs (fun a _ n hn _ => by have := pt_le h a.item (most - n); show _ ∧ n + _ ≤ _; omega) (1 + (T.texts.length : Int) + (T.nums.length : Int)) (by omega)
    have hO := gaG_few (most := most) (g := fun (o : OB) n => gaG most (fun t n => n + ptF h t (most - n)) o.fields (n + (o.names.length : Int) + (o.must.length : Int) + ptF h o.rest (most - n))) (c := fun o => o.names.length + o.must.length + tpN h o.rest + sumL (o.fields.map (tpN h))) T.objs (fun o _ n hn hm => by
      have h1 := pt_few h o.rest (most - n) (by omega)
      have h2 := pt_le h o.rest (most - n)
      have h3 := gaG_few (most := most) (g := fun (t : TT) n => n + ptF h t (most - n)) (c := tpN h) o.fields (fun t _ n hn hm => by
        have h1 := pt_few h t (most - n) (by omega)
        have h2 := pt_le h t (most - n)
        refine ⟨fun hle => ?_, fun hle => ?_, ?_⟩
        · show n + _ = _; rw [h1.1 (by omega)]
        · show most < n + _; have := h1.2 (by omega); omega
        · show 0 ≤ n + _; omega) (n + (o.names.length : Int) + (o.must.length : Int) + ptF h o.rest (most - n)) (by omega)
      have h4 := gaG_le (most := most) (g := fun (t : TT) n => n + ptF h t (most - n)) (c := tpN h) o.fields (fun t _ n hn _ => by have := pt_le h t (most - n); show _ ∧ n + _ ≤ _; omega) (n + (o.names.length : Int) + (o.must.length : Int) + ptF h o.rest (most - n)) (by omega)
      show (n + ((o.names.length + o.must.length + tpN h o.rest + sumL (o.fields.map (tpN h)) : Nat) : Int) ≤ most → gaG most _ o.fields _ = n + ((o.names.length + o.must.length + tpN h o.rest + sumL (o.fields.map (tpN h)) : Nat) : Int)) ∧ (most < n + ((o.names.length + o.must.length + tpN h o.rest + sumL (o.fields.map (tpN h)) : Nat) : Int) → most < gaG most _ o.fields _) ∧ 0 ≤ gaG most _ o.fields _
      refine ⟨fun hle => ?_, fun hle => ?_, by omega⟩
      · have e1 := h1.1 (by omega)
        have e2 := h3.1 (by omega)
        omega
      · by_cases h5 : (tpN h o.rest : Int) ≤ most - n
        · have e1 := h1.1 h5
          exact h3.2 (by omega)
        · have e1 := h1.2 (by omega)
          omega) (gaG most (fun a n => n + ptF h a.item (most - n)) T.arrs (1 + (T.texts.length : Int) + (T.nums.length : Int))) (by omega)
    have hOle := (pt_le (h + 1) T most)
    show (((1 + T.texts.length + T.nums.length + sumL (T.arrs.map fun a => tpN h a.item) + sumL (T.objs.map fun o => o.names.length + o.must.length + tpN h o.rest + sumL (o.fields.map (tpN h))) : Nat) : Int) ≤ most → gaG most _ T.objs _ = ((1 + T.texts.length + T.nums.length + sumL (T.arrs.map fun a => tpN h a.item) + sumL (T.objs.map fun o => o.names.length + o.must.length + tpN h o.rest + sumL (o.fields.map (tpN h))) : Nat) : Int)) ∧ (most < ((1 + T.texts.length + T.nums.length + sumL (T.arrs.map fun a => tpN h a.item) + sumL (T.objs.map fun o => o.names.length + o.must.length + tpN h o.rest + sumL (o.fields.map (tpN h))) : Nat) : Int) → most < gaG most _ T.objs _)
    refine ⟨fun hle => ?_, fun hle => ?_⟩
    · have e1 := hA.1 (by omega)
      have e2 := hO.1 (by omega)
      omega
    · by_cases h5 : 1 + (T.texts.length : Int) + (T.nums.length : Int) + ((sumL (T.arrs.map fun a => tpN h a.item) : Nat) : Int) ≤ most
      · have e1 := hA.1 h5
        exact hO.2 (by omega)
      · have e1 := hA.2 (by omega)
        exact hO.2 (by omega)
theorem fit_dec (h : Nat) (T : TT) : decide (ptF h T 20000 ≤ 20000) = decide (tpN h T ≤ 20000) := by
  have := pt_few h T 20000 (by omega)
  by_cases h1 : tpN h T ≤ 20000
  · rw [decide_eq_true h1, decide_eq_true (by have := this.1 (by omega); omega)]
  · rw [decide_eq_false h1, decide_eq_false (by have := this.2 (by omega); omega)]
/-- a type's box -/
structure TBx (w u : World) (a b c d e f g h i : Value) : Prop where
  below : Below w.heap.size w u
  c0 : u.cell? ⟨w.heap.size, 0, none⟩ = some a
  c1 : u.cell? ⟨w.heap.size, 1, none⟩ = some b
  c2 : u.cell? ⟨w.heap.size, 2, none⟩ = some c
  c3 : u.cell? ⟨w.heap.size, 3, none⟩ = some d
  c4 : u.cell? ⟨w.heap.size, 4, none⟩ = some e
  c5 : u.cell? ⟨w.heap.size, 5, none⟩ = some f
  c6 : u.cell? ⟨w.heap.size, 6, none⟩ = some g
  c7 : u.cell? ⟨w.heap.size, 7, none⟩ = some h
  c8 : u.cell? ⟨w.heap.size, 8, none⟩ = some i
  lt : w.heap.size < u.heap.size
theorem TBx.keep {w u u' : World} {a b c d e f g h i : Value} (x : TBx w u a b c d e f g h i) (hb : Below u.heap.size u u') : TBx w u' a b c d e f g h i :=
  ⟨x.below.trans (hb.mono x.below.size), (hb.cell (p := ⟨_, _, _⟩) x.lt).trans x.c0, (hb.cell (p := ⟨_, _, _⟩) x.lt).trans x.c1, (hb.cell (p := ⟨_, _, _⟩) x.lt).trans x.c2, (hb.cell (p := ⟨_, _, _⟩) x.lt).trans x.c3, (hb.cell (p := ⟨_, _, _⟩) x.lt).trans x.c4, (hb.cell (p := ⟨_, _, _⟩) x.lt).trans x.c5, (hb.cell (p := ⟨_, _, _⟩) x.lt).trans x.c6, (hb.cell (p := ⟨_, _, _⟩) x.lt).trans x.c7, (hb.cell (p := ⟨_, _, _⟩) x.lt).trans x.c8, Nat.lt_of_lt_of_le x.lt hb.size⟩
theorem tbx_new (w : World) (a b c d e f g h i : Value) : TBx w (w.alloc (.cells #[a, b, c, d, e, f, g, h, i] 29)) a b c d e f g h i :=
  ⟨(Below.refl _ _).alloc (Nat.le_refl _) _, by simp [go_sem], by simp [go_sem], by simp [go_sem], by simp [go_sem], by simp [go_sem], by simp [go_sem], by simp [go_sem], by simp [go_sem], by simp [go_sem], by simp⟩
end Go.Proofs.YtapjfocjeligiaaGreatDoor
