import Derived.Test.YtihhjplbpaafiaaM20
import Derived.Test.YtihhjplbpaafiaaM25
namespace Go.Proofs.Ytihhjplbpaafiaa
open Go.ChangeShapes Go.WideShapes Go.RowKit
set_option linter.unusedVariables false

theorem rng_of {z : Int} (h : (Lit.int .i64 z).wf = true) : -9223372036854775808 ≤ z ∧ z < 9223372036854775808 := by
  have h1 : (decide (IntKind.i64.min ≤ z) && decide (z ≤ IntKind.i64.max)) = true := h
  rw [Bool.and_eq_true, decide_eq_true_eq, decide_eq_true_eq] at h1
  have e1 : IntKind.i64.min = -9223372036854775808 := by decide
  have e2 : IntKind.i64.max = 9223372036854775807 := by decide
  rw [e1, e2] at h1
  omega
theorem InT.rgUp {W : World} : ∀ {n m : Nat} {T : TT} {v : Value}, InT W n T v → n ≤ m → rgT n T → rgT m T
  | 0, _, _, _, h, _, _ => h.elim
  | n + 1, 0, _, _, _, hm, _ => absurd hm (by omega)
  | n + 1, m + 1, T, v, h, hm, hr => by
    obtain ⟨no, nc, xo, xc, ao, ac, oo, oc, e, a1, a2, a3, a4, hs, hk, ha, ho⟩ := h
    refine ⟨fun a hma => ?_, fun o hmo => ?_⟩
    · have hra := hr.1 a hma
      obtain ⟨i, hil, rfl⟩ := List.getElem_of_mem hma
      obtain ⟨b, off, _, _, hc⟩ := ha (by omega)
      obtain ⟨c0, c1, c2, c3, c4, c5, c6, c7, c8, _, _, _, h4⟩ := hc i hil
      exact ⟨hra.1, hra.2.1, h4.rgUp (by omega) hra.2.2⟩
    · have hro := hr.2 o hmo
      obtain ⟨i, hil, rfl⟩ := List.getElem_of_mem hmo
      obtain ⟨b, off, _, _, hc⟩ := ho (by omega)
      obtain ⟨ko, kc, fo, fc, mo, mc, c0, c1, c2, c3, c4, c5, c6, c7, c8, _, _, _, _, _, _, h6, h7⟩ := hc i hil
      refine ⟨fun f hf => ?_, h7.rgUp (by omega) hro.2⟩
      have hrf := hro.1 f hf
      obtain ⟨j, hj, rfl⟩ := List.getElem_of_mem hf
      obtain ⟨b2, off2, _, _, hd⟩ := h6 (by omega)
      obtain ⟨d0, d1, d2, d3, d4, d5, d6, d7, d8, _, k2⟩ := hd j hj
      exact k2.rgUp (by omega) hrf

section
variable {H : Type} {enc : TypeId × Value → H} {W : World}

/-- a type's cells, as they are opened -/
def TyR (W : World) (m : Nat) (T : TT) (cs : List Value) (B : Nat) : Prop := (tpN m T ≤ B ∧ rgT m T) ∧ ∃ c0 c1 c2 c3 c4 c5 c6 c7 c8 : Value, cs = [c0, c1, c2, c3, c4, c5, c6, c7, c8] ∧ InT W m T (.agg #[c0, c1, c2, c3, c4, c5, c6, c7, c8])
def ArR (W : World) (m : Nat) (a : AR) (cs : List Value) (B : Nat) : Prop := (tpN m a.item ≤ B ∧ (-9223372036854775808 ≤ a.min ∧ a.min < 9223372036854775808) ∧ (-9223372036854775808 ≤ a.max ∧ a.max < 9223372036854775808) ∧ rgT m a.item) ∧ ∃ c0 c1 c2 c3 c4 c5 c6 c7 c8 : Value, cs = [c0, c1, c2, c3, c4, c5, c6, c7, c8, .int .i64 a.min, .int .i64 a.max] ∧ InT W m a.item (.agg #[c0, c1, c2, c3, c4, c5, c6, c7, c8])
def ObR (W : World) (m : Nat) (o : OB) (cs : List Value) (B : Nat) : Prop := (o.names.length + o.must.length + tpN m o.rest + sumL (o.fields.map (tpN m)) ≤ B ∧ (∀ f ∈ o.fields, rgT m f) ∧ rgT m o.rest) ∧ ∃ (ko : Option Addr) (kc : Nat) (fo : Option Addr) (fc : Nat) (mo : Option Addr) (mc : Nat) (c0 c1 c2 c3 c4 c5 c6 c7 c8 : Value),
  cs = [.slice ko o.names.length kc, .slice fo o.fields.length fc, .slice mo o.must.length mc, c0, c1, c2, c3, c4, c5, c6, c7, c8] ∧
  (o.names.length ≤ kc ∧ o.fields.length ≤ fc ∧ o.must.length ≤ mc) ∧
  (o.names.length ≤ 140737488355328 ∧ o.fields.length ≤ 140737488355328 ∧ o.must.length ≤ 140737488355328 ∧ ∀ k ∈ o.names, k.size ≤ 140737488355328) ∧
  KIn W ko o.names ∧ BoIn W mo o.must ∧
  (0 < o.fields.length → ∃ b2 off2, fo = some ⟨b2, off2, none⟩ ∧ b2 < W.heap.size ∧ ∀ j, (hj : j < o.fields.length) → ∃ d0 d1 d2 d3 d4 d5 d6 d7 d8 : Value,
    C9 W b2 (off2 + j * 9) d0 d1 d2 d3 d4 d5 d6 d7 d8 ∧ InT W m o.fields[j] (.agg #[d0, d1, d2, d3, d4, d5, d6, d7, d8])) ∧
  InT W m o.rest (.agg #[c0, c1, c2, c3, c4, c5, c6, c7, c8])
/-- what is known of lesser fuel -/
def TyRH (enc : TypeId × Value → H) (W : World) (fuel : Nat) : Prop := ∀ (n : Nat) (cs : List Value) (x : DataW H × List MemPlace), n < fuel → DataW.trod enc Try.prog W 0 (fun _ => true) true n 27 cs = some x → Rows.uptoBulk x.1 ≤ 1048576 → ∃ T, TyR W n T cs (Rows.uptoBulk x.1)

set_option maxRecDepth 100000 in
theorem arr_elR {fuel m : Nat} (ih : TyRH enc W fuel) (hm : fuel ≤ m + 1) {n : Nat} {cs : List Value} {d : DataW H} {ps : List MemPlace} (hn : n < fuel) (ht : DataW.trod enc Try.prog W 0 (fun _ => true) true n 51 cs = some (d, ps)) (hb : Rows.uptoBulk d ≤ 1048576) : ∃ a, ArR W m a cs (Rows.uptoBulk d) := by
  obtain ⟨xs, q, rfl, hd, hl, hxn, hi⟩ := DataW.trod_struct Try.underlying51 ht
  rw [cellsArT] at hl
  have hn3 : xs.length = 3 := hxn
  have h0 := hi 0 _ rfl
  have h1 := hi 1 _ rfl
  have h2 := hi 2 _ rfl
  match xs, hn3, cs, hl with
  | [y0, y1, y2], _, [v0, v1, v2, v3, v4, v5, v6, v7, v8, v9, v10], _ =>
    simp [cellsTyT, g_cells3] at h0 h1 h2
    have hd' : d = _ := congrArg Prod.fst hd
    rw [hd'] at hb ⊢
    simp only [List.map_cons, List.map_nil, Rows.uptoBulk, Rows.uptoBulkAll] at hb ⊢
    obtain ⟨T, ⟨hTp, hTr⟩, c0, c1, c2, c3, c4, c5, c6, c7, c8, e, hI⟩ := ih q _ _ (by omega) h0 (by omega)
    obtain ⟨z1, e1, _, g1⟩ := DataW.trod_int Try.underlying3 h1
    obtain ⟨z2, e2, _, g2⟩ := DataW.trod_int Try.underlying3 h2
    simp at e e1 e2
    obtain ⟨rfl, rfl, rfl, rfl, rfl, rfl, rfl, rfl, rfl⟩ := e
    subst e1 e2
    exact ⟨.mk T z1 z2, ⟨by show tpN m T ≤ _; rw [hI.tpUp (show q ≤ m by omega)]; omega, rng_of g1, rng_of g2, hI.rgUp (show q ≤ m by omega) hTr⟩, _, _, _, _, _, _, _, _, _, rfl, hI.le (by omega)⟩

set_option maxRecDepth 100000 in
theorem obj_elR {fuel m : Nat} (ih : TyRH enc W fuel) (hm : fuel ≤ m + 1) {n : Nat} {cs : List Value} {d : DataW H} {ps : List MemPlace} (hn : n < fuel) (ht : DataW.trod enc Try.prog W 0 (fun _ => true) true n 56 cs = some (d, ps)) (hb : Rows.uptoBulk d ≤ 1048576) : ∃ o, ObR W m o cs (Rows.uptoBulk d) := by
  obtain ⟨xs, q, rfl, hd, hl, hxn, hi⟩ := DataW.trod_struct Try.underlying56 ht
  rw [cellsObT] at hl
  have hn4 : xs.length = 4 := hxn
  have h0 := hi 0 _ rfl
  have h1 := hi 1 _ rfl
  have h2 := hi 2 _ rfl
  have h3 := hi 3 _ rfl
  match xs, hn4, cs, hl with
  | [y0, y1, y2, y3], _, [v0, v1, v2, v3, v4, v5, v6, v7, v8, v9, v10, v11], _ =>
    simp [cellsTyT, cellsStsT, cellsTysT, cellsBosT] at h0 h1 h2 h3
    have hd' : d = _ := congrArg Prod.fst hd
    rw [hd'] at hb ⊢
    simp only [List.map_cons, List.map_nil, Rows.uptoBulk, Rows.uptoBulkAll] at hb ⊢
    obtain ⟨ko, kc, ks, e0, k1, k2, k3, k4⟩ := texts_open h0
    obtain ⟨fo, fc, fs, fg, e1, f1, f2, fsm, f3⟩ := row_open (α := TT) Try.underlying53 cellsTyT (by omega) h1 (fun T cs' B => TyR W m T cs' B) (by
      intro n' cs' d' ps' hn' ht' hb'
      obtain ⟨T, ⟨hTp, hTr⟩, c0, c1, c2, c3, c4, c5, c6, c7, c8, e, hI⟩ := ih n' cs' _ (by omega) ht' (by show Rows.uptoBulk d' ≤ _; omega)
      exact ⟨T, ⟨by rw [hI.tpUp (show n' ≤ m by omega)]; exact hTp, hI.rgUp (show n' ≤ m by omega) hTr⟩, c0, c1, c2, c3, c4, c5, c6, c7, c8, e, hI.le (by omega)⟩)
    obtain ⟨mo, mc, bs, e2, m1, m2, m3⟩ := bools_open h2
    obtain ⟨R, ⟨hRp, hRr⟩, c0, c1, c2, c3, c4, c5, c6, c7, c8, e3, hR⟩ := ih q _ _ (by omega) h3 (by omega)
    simp at e0 e1 e2 e3
    obtain ⟨rfl, rfl, rfl, rfl, rfl, rfl, rfl, rfl, rfl⟩ := e3
    subst e0 e1 e2
    have hfs : sumL (fs.map (tpN m)) ≤ sumL ((List.range fs.length).map fg) := sum_idx (tpN m) fs fg (fun i hi => by
      obtain ⟨b2, off2, _, _, hc⟩ := f3 (by omega)
      obtain ⟨cs', hP, _⟩ := hc i hi
      exact hP.1.1)
    have hfr : ∀ f ∈ fs, rgT m f := fun f hf => by
      obtain ⟨i, hi, rfl⟩ := List.getElem_of_mem hf
      obtain ⟨b2, off2, _, _, hc⟩ := f3 (by omega)
      obtain ⟨cs', hP, _⟩ := hc i hi
      exact hP.1.2
    refine ⟨.mk ks fs bs R, ⟨by show ks.length + bs.length + tpN m R + sumL (fs.map (tpN m)) ≤ _; rw [hR.tpUp (show q ≤ m by omega)]; omega, hfr, hR.rgUp (show q ≤ m by omega) hRr⟩, ko, kc, fo, fc, mo, mc, _, _, _, _, _, _, _, _, _, rfl, ⟨k1, f1, m1⟩, ⟨?_, ?_, ?_, fun k hk => ?_⟩, k4, m3, fun hf => ?_, hR.le (by omega)⟩
    · show ks.length ≤ _; omega
    · show fs.length ≤ _; omega
    · show bs.length ≤ _; omega
    · have := k3 k hk; omega
    · obtain ⟨b2, off2, e, hl2, hc⟩ := f3 hf
      refine ⟨b2, off2, e, hl2, fun j hj => ?_⟩
      obtain ⟨cs', ⟨_, d0, d1, d2, d3, d4, d5, d6, d7, d8, rfl, hT⟩, _, hcell⟩ := hc j hj
      exact ⟨d0, d1, d2, d3, d4, d5, d6, d7, d8, c9_of hcell, hT⟩

set_option maxRecDepth 100000 in
/-- a type as it is handed in, as a tree -/
theorem tt_openR : ∀ (fuel : Nat) (cs : List Value) (x : DataW H × List MemPlace), DataW.trod enc Try.prog W 0 (fun _ => true) true fuel 27 cs = some x → Rows.uptoBulk x.1 ≤ 1048576 → ∃ T, TyR W fuel T cs (Rows.uptoBulk x.1) := by
  intro fuel
  induction fuel using Nat.strongRecOn with
  | ind fuel ih =>
  intro cs x h hbk
  have ih' : TyRH enc W fuel := fun n cs' x' hn ht hb => ih n hn cs' x' ht hb
  clear ih
  obtain ⟨xs, m, hfu, hx, hl, hn, hi⟩ := DataW.trod_struct Try.underlying27 h
  rw [cellsTyT] at hl
  have hn9 : xs.length = 9 := hn
  have h0 := hi 0 _ rfl
  have h1 := hi 1 _ rfl
  have h2 := hi 2 _ rfl
  have h3 := hi 3 _ rfl
  have h4 := hi 4 _ rfl
  have h5 := hi 5 _ rfl
  have h6 := hi 6 _ rfl
  have h7 := hi 7 _ rfl
  have h8 := hi 8 _ rfl
  match xs, hn9, cs, hl with
  | [y0, y1, y2, y3, y4, y5, y6, y7, y8], _, [v0, v1, v2, v3, v4, v5, v6, v7, v8], _ =>
    simp [cells4T, cellsSpsT, cellsStsT, cellsArsT, cellsObsT] at h0 h1 h2 h3 h4 h5 h6 h7 h8
    rw [hx] at hbk ⊢
    simp only [List.map_cons, List.map_nil, Rows.uptoBulk, Rows.uptoBulkAll] at hbk ⊢
    have hb0 := bulk_posT y0.1
    obtain ⟨b0, e0, _⟩ := DataW.trod_bool Try.underlying4 h0
    obtain ⟨b1, e1, _⟩ := DataW.trod_bool Try.underlying4 h1
    obtain ⟨b2, e2, _⟩ := DataW.trod_bool Try.underlying4 h2
    obtain ⟨b3, e3, _⟩ := DataW.trod_bool Try.underlying4 h3
    obtain ⟨no, nc, ns, e4, n1, n2, n3, n4⟩ := spans_open h4
    obtain ⟨b5, e5, _⟩ := DataW.trod_bool Try.underlying4 h5
    obtain ⟨xo, xc, ts, e6, t1, t2, t3, t4⟩ := texts_open h6
    obtain ⟨ao, ac, rs, rg, e7, r1, r2, rsm, r3⟩ := row_open (α := AR) Try.underlying24 cellsArT (by omega) h7 (fun a cs' B => ArR W m a cs' B) (fun n cs' d ps hn' ht hb => arr_elR ih' (by omega) (by omega) ht (by omega))
    obtain ⟨oo, oc, os, og, e8, o1, o2, osm, o3⟩ := row_open (α := OB) Try.underlying25 cellsObT (by omega) h8 (fun o cs' B => ObR W m o cs' B) (fun n cs' d ps hn' ht hb => obj_elR ih' (by omega) (by omega) ht (by omega))
    simp at e0 e1 e2 e3 e4 e5 e6 e7 e8
    subst e0 e1 e2 e3 e4 e5 e6 e7 e8
    have hrs : sumL (rs.map fun a => tpN m a.item) ≤ sumL ((List.range rs.length).map rg) := sum_idx (fun a : AR => tpN m a.item) rs rg (fun i hi' => by
      obtain ⟨b, off, _, _, hc⟩ := r3 (by omega)
      obtain ⟨cs', hP, _⟩ := hc i hi'
      exact hP.1.1)
    have hrr : ∀ a ∈ rs, (-9223372036854775808 ≤ a.min ∧ a.min < 9223372036854775808) ∧ (-9223372036854775808 ≤ a.max ∧ a.max < 9223372036854775808) ∧ rgT m a.item := fun a ha => by
      obtain ⟨i, hi', rfl⟩ := List.getElem_of_mem ha
      obtain ⟨b, off, _, _, hc⟩ := r3 (by omega)
      obtain ⟨cs', hP, _⟩ := hc i hi'
      exact hP.1.2
    have hor : ∀ o ∈ os, (∀ f ∈ o.fields, rgT m f) ∧ rgT m o.rest := fun o ho => by
      obtain ⟨i, hi', rfl⟩ := List.getElem_of_mem ho
      obtain ⟨b, off, _, _, hc⟩ := o3 (by omega)
      obtain ⟨cs', hP, _⟩ := hc i hi'
      exact hP.1.2
    have hos : sumL (os.map fun o => o.names.length + o.must.length + tpN m o.rest + sumL (o.fields.map (tpN m))) ≤ sumL ((List.range os.length).map og) := sum_idx (fun o : OB => o.names.length + o.must.length + tpN m o.rest + sumL (o.fields.map (tpN m))) os og (fun i hi' => by
      obtain ⟨b, off, _, _, hc⟩ := o3 (by omega)
      obtain ⟨cs', hP, _⟩ := hc i hi'
      exact hP.1.1)
    refine ⟨.mk b0 b1 b2 b3 b5 ns ts rs os, ⟨?_, by rw [hfu]; exact ⟨hrr, hor⟩⟩, _, _, _, _, _, _, _, _, _, rfl, ?_⟩
    · rw [hfu]
      show 1 + ts.length + ns.length + sumL (rs.map fun a => tpN m a.item) + sumL (os.map fun o => o.names.length + o.must.length + tpN m o.rest + sumL (o.fields.map (tpN m))) ≤ _
      omega
    rw [hfu]
    refine ⟨no, nc, xo, xc, ao, ac, oo, oc, rfl, ⟨n1, t1, r1, o1⟩, ⟨?_, ?_, ?_, ?_⟩, fun p hp => ?_, fun k hk => ?_, n4, t4, fun hp => ?_, fun hp => ?_⟩
    · show ns.length ≤ _; omega
    · show ts.length ≤ _; omega
    · show rs.length ≤ _; omega
    · show os.length ≤ _; omega
    · have := n3 p hp; omega
    · have := t3 k hk; omega
    · obtain ⟨b, off, e, hl2, hc⟩ := r3 hp
      refine ⟨b, off, e, hl2, fun i hi' => ?_⟩
      obtain ⟨cs', ⟨_, c0, c1, c2, c3, c4, c5, c6, c7, c8, rfl, hT⟩, _, hcell⟩ := hc i hi'
      exact ⟨c0, c1, c2, c3, c4, c5, c6, c7, c8, ⟨hcell 0 (by omega), hcell 1 (by omega), hcell 2 (by omega), hcell 3 (by omega), hcell 4 (by omega), hcell 5 (by omega), hcell 6 (by omega), hcell 7 (by omega), hcell 8 (by omega)⟩, hcell 9 (by omega), hcell 10 (by omega), hT⟩
    · obtain ⟨b, off, e, hl2, hc⟩ := o3 hp
      refine ⟨b, off, e, hl2, fun i hi' => ?_⟩
      obtain ⟨cs', ⟨_, ko, kc, fo, fc, mo, mc, c0, c1, c2, c3, c4, c5, c6, c7, c8, rfl, p1, p2, p3, p4, p5, p6⟩, _, hcell⟩ := hc i hi'
      have sh : ∀ j, j < 9 → W.cell? ⟨b, off + i * 12 + 3 + j, none⟩ = ([c0, c1, c2, c3, c4, c5, c6, c7, c8] : List Value)[j]? := by
        intro j hj
        have := hcell (3 + j) (by omega)
        rw [← Nat.add_assoc] at this
        rw [this]
        rcases (show j = 0 ∨ j = 1 ∨ j = 2 ∨ j = 3 ∨ j = 4 ∨ j = 5 ∨ j = 6 ∨ j = 7 ∨ j = 8 by omega) with rfl | rfl | rfl | rfl | rfl | rfl | rfl | rfl | rfl <;> rfl
      exact ⟨ko, kc, fo, fc, mo, mc, c0, c1, c2, c3, c4, c5, c6, c7, c8, ⟨hcell 0 (by omega), hcell 1 (by omega), hcell 2 (by omega)⟩, c9_of sh, p1, p2, p3, p4, p5, p6⟩
end
end Go.Proofs.Ytihhjplbpaafiaa
