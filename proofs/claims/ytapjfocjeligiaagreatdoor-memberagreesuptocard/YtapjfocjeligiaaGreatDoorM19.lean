import Derived.Test.YtapjfocjeligiaaGreatDoorM7
namespace Go.Proofs.YtapjfocjeligiaaGreatDoor
open Go.RowKit
set_option linter.unusedVariables false
set_option linter.unusedSimpArgs false

mutual
/-- a type as a tree -/
inductive TT where
  | mk (all nul fls tru any : Bool) (nums : List (ByteArray × ByteArray)) (texts : List ByteArray) (arrs : List AR) (objs : List OB)
inductive AR where
  | mk (item : TT) (min max : Int)
inductive OB where
  | mk (names : List ByteArray) (fields : List TT) (must : List Bool) (rest : TT)
end
def TT.all : TT → Bool | .mk a _ _ _ _ _ _ _ _ => a
def TT.nul : TT → Bool | .mk _ a _ _ _ _ _ _ _ => a
def TT.fls : TT → Bool | .mk _ _ a _ _ _ _ _ _ => a
def TT.tru : TT → Bool | .mk _ _ _ a _ _ _ _ _ => a
def TT.any : TT → Bool | .mk _ _ _ _ a _ _ _ _ => a
def TT.nums : TT → List (ByteArray × ByteArray) | .mk _ _ _ _ _ a _ _ _ => a
def TT.texts : TT → List ByteArray | .mk _ _ _ _ _ _ a _ _ => a
def TT.arrs : TT → List AR | .mk _ _ _ _ _ _ _ a _ => a
def TT.objs : TT → List OB | .mk _ _ _ _ _ _ _ _ a => a
def AR.item : AR → TT | .mk a _ _ => a
def AR.min : AR → Int | .mk _ a _ => a
def AR.max : AR → Int | .mk _ _ a => a
def OB.names : OB → List ByteArray | .mk a _ _ _ => a
def OB.fields : OB → List TT | .mk _ a _ _ => a
def OB.must : OB → List Bool | .mk _ _ a _ => a
def OB.rest : OB → TT | .mk _ _ _ a => a

/-- a row of spans, as it lies -/
structure SpIn (W : World) (io : Option Addr) (ps : List (ByteArray × ByteArray)) : Prop where
  row : 0 < ps.length → ∃ b off, io = some ⟨b, off, none⟩ ∧ b < W.heap.size ∧ ∀ i, (hi : i < ps.length) → W.cell? ⟨b, off + i * 2, none⟩ = some (.string ps[i].1) ∧ W.cell? ⟨b, off + i * 2 + 1, none⟩ = some (.string ps[i].2)
/-- a row of bools, as it lies -/
structure BoIn (W : World) (io : Option Addr) (bs : List Bool) : Prop where
  row : 0 < bs.length → ∃ b off, io = some ⟨b, off, none⟩ ∧ b < W.heap.size ∧ ∀ i, (hi : i < bs.length) → W.cell? ⟨b, off + i, none⟩ = some (.bool bs[i])
/-- nine cells in a row -/
structure C9 (W : World) (b o : Nat) (c0 c1 c2 c3 c4 c5 c6 c7 c8 : Value) : Prop where
  c0 : W.cell? ⟨b, o, none⟩ = some c0
  c1 : W.cell? ⟨b, o + 1, none⟩ = some c1
  c2 : W.cell? ⟨b, o + 2, none⟩ = some c2
  c3 : W.cell? ⟨b, o + 3, none⟩ = some c3
  c4 : W.cell? ⟨b, o + 4, none⟩ = some c4
  c5 : W.cell? ⟨b, o + 5, none⟩ = some c5
  c6 : W.cell? ⟨b, o + 6, none⟩ = some c6
  c7 : W.cell? ⟨b, o + 7, none⟩ = some c7
  c8 : W.cell? ⟨b, o + 8, none⟩ = some c8
/-- the type stands in the world, at most so high -/
def InT (W : World) : Nat → TT → Value → Prop
  | 0, _, _ => False
  | h + 1, T, v => ∃ (no : Option Addr) (nc : Nat) (xo : Option Addr) (xc : Nat) (ao : Option Addr) (ac : Nat) (oo : Option Addr) (oc : Nat),
      v = .agg #[.bool T.all, .bool T.nul, .bool T.fls, .bool T.tru, .slice no T.nums.length nc, .bool T.any, .slice xo T.texts.length xc, .slice ao T.arrs.length ac, .slice oo T.objs.length oc] ∧
      (T.nums.length ≤ nc ∧ T.texts.length ≤ xc ∧ T.arrs.length ≤ ac ∧ T.objs.length ≤ oc) ∧
      (T.nums.length ≤ 140737488355328 ∧ T.texts.length ≤ 140737488355328 ∧ T.arrs.length ≤ 140737488355328 ∧ T.objs.length ≤ 140737488355328) ∧
      (∀ p ∈ T.nums, p.1.size ≤ 140737488355328 ∧ p.2.size ≤ 140737488355328) ∧ (∀ k ∈ T.texts, k.size ≤ 140737488355328) ∧
      SpIn W no T.nums ∧ KIn W xo T.texts ∧
      (0 < T.arrs.length → ∃ b off, ao = some ⟨b, off, none⟩ ∧ b < W.heap.size ∧ ∀ i, (hi : i < T.arrs.length) → ∃ c0 c1 c2 c3 c4 c5 c6 c7 c8 : Value,
        C9 W b (off + i * 11) c0 c1 c2 c3 c4 c5 c6 c7 c8 ∧ W.cell? ⟨b, off + i * 11 + 9, none⟩ = some (.int .i64 T.arrs[i].min) ∧ W.cell? ⟨b, off + i * 11 + 10, none⟩ = some (.int .i64 T.arrs[i].max) ∧
        InT W h T.arrs[i].item (.agg #[c0, c1, c2, c3, c4, c5, c6, c7, c8])) ∧
      (0 < T.objs.length → ∃ b off, oo = some ⟨b, off, none⟩ ∧ b < W.heap.size ∧ ∀ i, (hi : i < T.objs.length) → ∃ (ko : Option Addr) (kc : Nat) (fo : Option Addr) (fc : Nat) (mo : Option Addr) (mc : Nat) (c0 c1 c2 c3 c4 c5 c6 c7 c8 : Value),
        (W.cell? ⟨b, off + i * 12, none⟩ = some (.slice ko T.objs[i].names.length kc) ∧ W.cell? ⟨b, off + i * 12 + 1, none⟩ = some (.slice fo T.objs[i].fields.length fc) ∧ W.cell? ⟨b, off + i * 12 + 2, none⟩ = some (.slice mo T.objs[i].must.length mc)) ∧
        C9 W b (off + i * 12 + 3) c0 c1 c2 c3 c4 c5 c6 c7 c8 ∧
        (T.objs[i].names.length ≤ kc ∧ T.objs[i].fields.length ≤ fc ∧ T.objs[i].must.length ≤ mc) ∧
        (T.objs[i].names.length ≤ 140737488355328 ∧ T.objs[i].fields.length ≤ 140737488355328 ∧ T.objs[i].must.length ≤ 140737488355328 ∧ ∀ k ∈ T.objs[i].names, k.size ≤ 140737488355328) ∧
        KIn W ko T.objs[i].names ∧ BoIn W mo T.objs[i].must ∧
        (0 < T.objs[i].fields.length → ∃ b2 off2, fo = some ⟨b2, off2, none⟩ ∧ b2 < W.heap.size ∧ ∀ j, (hj : j < T.objs[i].fields.length) → ∃ d0 d1 d2 d3 d4 d5 d6 d7 d8 : Value,
          C9 W b2 (off2 + j * 9) d0 d1 d2 d3 d4 d5 d6 d7 d8 ∧ InT W h T.objs[i].fields[j] (.agg #[d0, d1, d2, d3, d4, d5, d6, d7, d8])) ∧
        InT W h T.objs[i].rest (.agg #[c0, c1, c2, c3, c4, c5, c6, c7, c8]))
theorem SpIn.keep {W W' : World} {io : Option Addr} {ps : List (ByteArray × ByteArray)} (h : SpIn W io ps) (hb : Below W.heap.size W W') : SpIn W' io ps := by
  refine ⟨fun h0 => ?_⟩
  obtain ⟨b, off, e, hl, hc⟩ := h.row h0
  exact ⟨b, off, e, Nat.lt_of_lt_of_le hl hb.size, fun i hi => ⟨(hb.cell (p := ⟨_, _, _⟩) hl).trans (hc i hi).1, (hb.cell (p := ⟨_, _, _⟩) hl).trans (hc i hi).2⟩⟩
theorem BoIn.keep {W W' : World} {io : Option Addr} {bs : List Bool} (h : BoIn W io bs) (hb : Below W.heap.size W W') : BoIn W' io bs := by
  refine ⟨fun h0 => ?_⟩
  obtain ⟨b, off, e, hl, hc⟩ := h.row h0
  exact ⟨b, off, e, Nat.lt_of_lt_of_le hl hb.size, fun i hi => (hb.cell (p := ⟨_, _, _⟩) hl).trans (hc i hi)⟩
theorem C9.keep {W W' : World} {b o : Nat} {c0 c1 c2 c3 c4 c5 c6 c7 c8 : Value} (h : C9 W b o c0 c1 c2 c3 c4 c5 c6 c7 c8) (hb : Below W.heap.size W W') (hl : b < W.heap.size) : C9 W' b o c0 c1 c2 c3 c4 c5 c6 c7 c8 :=
  ⟨(hb.cell (p := ⟨_, _, _⟩) hl).trans h.c0, (hb.cell (p := ⟨_, _, _⟩) hl).trans h.c1, (hb.cell (p := ⟨_, _, _⟩) hl).trans h.c2, (hb.cell (p := ⟨_, _, _⟩) hl).trans h.c3, (hb.cell (p := ⟨_, _, _⟩) hl).trans h.c4, (hb.cell (p := ⟨_, _, _⟩) hl).trans h.c5, (hb.cell (p := ⟨_, _, _⟩) hl).trans h.c6, (hb.cell (p := ⟨_, _, _⟩) hl).trans h.c7, (hb.cell (p := ⟨_, _, _⟩) hl).trans h.c8⟩
theorem InT.keep {W W' : World} (hb : Below W.heap.size W W') : ∀ {h : Nat} {T : TT} {v : Value}, InT W h T v → InT W' h T v
  | 0, _, _, h => h
  | h + 1, T, v, hI => by
    obtain ⟨no, nc, xo, xc, ao, ac, oo, oc, e, a1, a2, a3, a4, hs, hk, ha, ho⟩ := hI
    refine ⟨no, nc, xo, xc, ao, ac, oo, oc, e, a1, a2, a3, a4, hs.keep hb, hk.keep hb, fun h0 => ?_, fun h0 => ?_⟩
    · obtain ⟨b, off, e2, hl, hc⟩ := ha h0
      refine ⟨b, off, e2, Nat.lt_of_lt_of_le hl hb.size, fun i hi => ?_⟩
      obtain ⟨c0, c1, c2, c3, c4, c5, c6, c7, c8, h1, h2, h3, h4⟩ := hc i hi
      exact ⟨c0, c1, c2, c3, c4, c5, c6, c7, c8, h1.keep hb hl, (hb.cell (p := ⟨_, _, _⟩) hl).trans h2, (hb.cell (p := ⟨_, _, _⟩) hl).trans h3, h4.keep hb⟩
    · obtain ⟨b, off, e2, hl, hc⟩ := ho h0
      refine ⟨b, off, e2, Nat.lt_of_lt_of_le hl hb.size, fun i hi => ?_⟩
      obtain ⟨ko, kc, fo, fc, mo, mc, c0, c1, c2, c3, c4, c5, c6, c7, c8, ⟨g1, g2, g3⟩, h1, h2, h3, h4, h5, h6, h7⟩ := hc i hi
      refine ⟨ko, kc, fo, fc, mo, mc, c0, c1, c2, c3, c4, c5, c6, c7, c8, ⟨(hb.cell (p := ⟨_, _, _⟩) hl).trans g1, (hb.cell (p := ⟨_, _, _⟩) hl).trans g2, (hb.cell (p := ⟨_, _, _⟩) hl).trans g3⟩, h1.keep hb hl, h2, h3, h4.keep hb, h5.keep hb, fun hf => ?_, h7.keep hb⟩
      obtain ⟨b2, off2, e3, hl2, hd⟩ := h6 hf
      refine ⟨b2, off2, e3, Nat.lt_of_lt_of_le hl2 hb.size, fun j hj => ?_⟩
      obtain ⟨d0, d1, d2, d3, d4, d5, d6, d7, d8, k1, k2⟩ := hd j hj
      exact ⟨d0, d1, d2, d3, d4, d5, d6, d7, d8, k1.keep hb hl2, k2.keep hb⟩
theorem InT.up {W : World} : ∀ {h : Nat} {T : TT} {v : Value}, InT W h T v → InT W (h + 1) T v
  | 0, _, _, h => h.elim
  | h + 1, T, v, hI => by
    obtain ⟨no, nc, xo, xc, ao, ac, oo, oc, e, a1, a2, a3, a4, hs, hk, ha, ho⟩ := hI
    refine ⟨no, nc, xo, xc, ao, ac, oo, oc, e, a1, a2, a3, a4, hs, hk, fun h0 => ?_, fun h0 => ?_⟩
    · obtain ⟨b, off, e2, hl, hc⟩ := ha h0
      refine ⟨b, off, e2, hl, fun i hi => ?_⟩
      obtain ⟨c0, c1, c2, c3, c4, c5, c6, c7, c8, h1, h2, h3, h4⟩ := hc i hi
      exact ⟨c0, c1, c2, c3, c4, c5, c6, c7, c8, h1, h2, h3, h4.up⟩
    · obtain ⟨b, off, e2, hl, hc⟩ := ho h0
      refine ⟨b, off, e2, hl, fun i hi => ?_⟩
      obtain ⟨ko, kc, fo, fc, mo, mc, c0, c1, c2, c3, c4, c5, c6, c7, c8, g, h1, h2, h3, h4, h5, h6, h7⟩ := hc i hi
      refine ⟨ko, kc, fo, fc, mo, mc, c0, c1, c2, c3, c4, c5, c6, c7, c8, g, h1, h2, h3, h4, h5, fun hf => ?_, h7.up⟩
      obtain ⟨b2, off2, e3, hl2, hd⟩ := h6 hf
      refine ⟨b2, off2, e3, hl2, fun j hj => ?_⟩
      obtain ⟨d0, d1, d2, d3, d4, d5, d6, d7, d8, k1, k2⟩ := hd j hj
      exact ⟨d0, d1, d2, d3, d4, d5, d6, d7, d8, k1, k2.up⟩
theorem InT.le {W : World} {h h' : Nat} {T : TT} {v : Value} (hI : InT W h T v) (hle : h ≤ h') : InT W h' T v := by
  obtain ⟨k, rfl⟩ := Nat.exists_eq_add_of_le hle
  clear hle
  induction k with
  | zero => exact hI
  | succ k ih => exact ih.up
end Go.Proofs.YtapjfocjeligiaaGreatDoor
