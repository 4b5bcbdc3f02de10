import Derived.Test.YtapjfocjeligiaaGreatDoorM46
import Derived.Test.YtapjfocjeligiaaGreatDoorM49
import Derived.OwnWalk
namespace Go.Proofs.YtapjfocjeligiaaGreatDoor
open Go.RowKit Go.Shelf Go.Sort
set_option linter.unusedVariables false
set_option linter.unusedSimpArgs false
attribute [local go_sem] Oper.semAt_some

/-- what Why answers: the way, the reason, the error -/
def whR (hv h : Nat) (V : VT) (T : TT) : List VT × Int × Int := if formN hv V && fmN h T then (match agN h V T with | none => ([], 0, 0) | some q => (q.1, q.2, 0)) else ([], 0, 1)
/-- a row of steps, as Why hands it out -/
def WhO (w' : World) (p : List VT) (io : Option Addr) (cap : Nat) : Prop := p.length ≤ cap ∧ IIn w' 1 io p

set_option maxRecDepth 100000 in
set_option maxHeartbeats 6400000 in
theorem why_v (kd : Int) (nm tx : ByteArray) (io : Option Addr) (NI icap : Nat) (vo : Option Addr) (NK vcap : Nat) (sa sb sc sd : Bool) (seo : Option Addr) (sen sec : Nat) (sf : Bool) (sgo : Option Addr) (sgn sgc : Nat) (sio : Option Addr) (sinn sic : Nat) (sjo : Option Addr) (sjn sjc : Nat) (w : World) (R : Er) (f : Bool) (P : List VT) (rs er : Int)
    (H1 : Hid (∀ u, Below w.heap.size w u → Calls Tryz.prog 19 #[.agg #[.int .i64 kd, .string nm, .string tx, .slice io NI icap, .slice vo NK vcap], .agg #[.bool sa, .bool sb, .bool sc, .bool sd, .slice seo sen sec, .bool sf, .slice sgo sgn sgc, .slice sio sinn sic, .slice sjo sjn sjc]] u fun e w' => e = .returned (.bool f) ∧ Below u.heap.size u w'))
    (H2 : Hid (f = true → ∀ u, Below w.heap.size w u → Calls Tryz.prog 20 #[.agg #[.int .i64 kd, .string nm, .string tx, .slice io NI icap, .slice vo NK vcap], .agg #[.bool sa, .bool sb, .bool sc, .bool sd, .slice seo sen sec, .bool sf, .slice sgo sgn sgc, .slice sio sinn sic, .slice sjo sjn sjc]] u fun e w' => (∃ v, e = .returned v ∧ ErV w' R v) ∧ Below u.heap.size u w')) (HG : Hid (ErrT w)) (HL : Hid (∀ q, R = some q → q.1.length ≤ 1048576))
    (HA : Hid (f = true → (R = none → P = [] ∧ rs = 0) ∧ (∀ q, R = some q → P = q.1 ∧ rs = q.2) ∧ er = 0)) (HN : Hid (f = false → P = [] ∧ rs = 0 ∧ er = 1)) :
    Calls Tryz.prog 12 #[.agg #[.int .i64 kd, .string nm, .string tx, .slice io NI icap, .slice vo NK vcap], .agg #[.bool sa, .bool sb, .bool sc, .bool sd, .slice seo sen sec, .bool sf, .slice sgo sgn sgc, .slice sio sinn sic, .slice sjo sjn sjc]] w fun e w' => (∃ io cap, e = .returned (.tuple #[.slice io P.length cap, .int .i64 rs, .int .i64 er]) ∧ WhO w' P io cap) ∧ Below w.heap.size w w' := by
  have HX := Hid.mk (bx2_two w #[.int .i64 kd, .string nm, .string tx, .slice io NI icap, .slice vo NK vcap] #[.bool sa, .bool sb, .bool sc, .bool sd, .slice seo sen sec, .bool sf, .slice sgo sgn sgc, .slice sio sinn sic, .slice sjo sjn sjc] 37 29)
  obtain ⟨W0, hW0⟩ : ∃ W0, (w.alloc (.cells #[.int .i64 kd, .string nm, .string tx, .slice io NI icap, .slice vo NK vcap] 37)).alloc (.cells #[.bool sa, .bool sb, .bool sc, .bool sd, .slice seo sen sec, .bool sf, .slice sgo sgn sgc, .slice sio sinn sic, .slice sjo sjn sjc] 29) = W0 := ⟨_, rfl⟩
  rw [hW0] at HX
  have p0 : W0.cell? ⟨w.heap.size, 0, none⟩ = some (.int .i64 kd) := HX.out.one 0
  have p1 : W0.cell? ⟨w.heap.size, 1, none⟩ = some (.string nm) := HX.out.one 1
  have p2 : W0.cell? ⟨w.heap.size, 2, none⟩ = some (.string tx) := HX.out.one 2
  have p3 : W0.cell? ⟨w.heap.size, 3, none⟩ = some (.slice io NI icap) := HX.out.one 3
  have p4 : W0.cell? ⟨w.heap.size, 4, none⟩ = some (.slice vo NK vcap) := HX.out.one 4
  have q0 : W0.cell? ⟨w.heap.size + 1, 0, none⟩ = some (.bool sa) := HX.out.two 0
  have q1 : W0.cell? ⟨w.heap.size + 1, 1, none⟩ = some (.bool sb) := HX.out.two 1
  have q2 : W0.cell? ⟨w.heap.size + 1, 2, none⟩ = some (.bool sc) := HX.out.two 2
  have q3 : W0.cell? ⟨w.heap.size + 1, 3, none⟩ = some (.bool sd) := HX.out.two 3
  have q4 : W0.cell? ⟨w.heap.size + 1, 4, none⟩ = some (.slice seo sen sec) := HX.out.two 4
  have q5 : W0.cell? ⟨w.heap.size + 1, 5, none⟩ = some (.bool sf) := HX.out.two 5
  have q6 : W0.cell? ⟨w.heap.size + 1, 6, none⟩ = some (.slice sgo sgn sgc) := HX.out.two 6
  have q7 : W0.cell? ⟨w.heap.size + 1, 7, none⟩ = some (.slice sio sinn sic) := HX.out.two 7
  have q8 : W0.cell? ⟨w.heap.size + 1, 8, none⟩ = some (.slice sjo sjn sjc) := HX.out.two 8
  go_enter Tryz.func12, Tryz.ntmps12
  go_wp2_with fail
  refine (H1.out _ HX.out.below).mono ?_
  rintro e w1 ⟨rfl, hb1⟩
  have HX1 := Hid.mk (HX.out.keep hb1)
  clear hb1 hW0 p0 p1 p2 p3 p4 q0 q1 q2 q3 q4 q5 q6 q7 q8
  cases f with
  | false =>
    obtain ⟨rfl, rfl, rfl⟩ := HN.out rfl
    go_wp2_with fail
    go_ret3
    exact ⟨⟨none, 0, rfl, Nat.le_refl _, ⟨fun h0 => absurd h0 (Nat.not_lt_zero _)⟩⟩, HX1.out.below⟩
  | true =>
    obtain ⟨eA, eB, rfl⟩ := HA.out rfl
    have HEA := Hid.mk eA
    have HEB := Hid.mk eB
    have HC2 := Hid.mk (H2.out rfl)
    clear eA eB HA HN H2
    have p0 : w1.cell? ⟨w.heap.size, 0, none⟩ = some (.int .i64 kd) := HX1.out.one 0
    have p1 : w1.cell? ⟨w.heap.size, 1, none⟩ = some (.string nm) := HX1.out.one 1
    have p2 : w1.cell? ⟨w.heap.size, 2, none⟩ = some (.string tx) := HX1.out.one 2
    have p3 : w1.cell? ⟨w.heap.size, 3, none⟩ = some (.slice io NI icap) := HX1.out.one 3
    have p4 : w1.cell? ⟨w.heap.size, 4, none⟩ = some (.slice vo NK vcap) := HX1.out.one 4
    have q0 : w1.cell? ⟨w.heap.size + 1, 0, none⟩ = some (.bool sa) := HX1.out.two 0
    have q1 : w1.cell? ⟨w.heap.size + 1, 1, none⟩ = some (.bool sb) := HX1.out.two 1
    have q2 : w1.cell? ⟨w.heap.size + 1, 2, none⟩ = some (.bool sc) := HX1.out.two 2
    have q3 : w1.cell? ⟨w.heap.size + 1, 3, none⟩ = some (.bool sd) := HX1.out.two 3
    have q4 : w1.cell? ⟨w.heap.size + 1, 4, none⟩ = some (.slice seo sen sec) := HX1.out.two 4
    have q5 : w1.cell? ⟨w.heap.size + 1, 5, none⟩ = some (.bool sf) := HX1.out.two 5
    have q6 : w1.cell? ⟨w.heap.size + 1, 6, none⟩ = some (.slice sgo sgn sgc) := HX1.out.two 6
    have q7 : w1.cell? ⟨w.heap.size + 1, 7, none⟩ = some (.slice sio sinn sic) := HX1.out.two 7
    have q8 : w1.cell? ⟨w.heap.size + 1, 8, none⟩ = some (.slice sjo sjn sjc) := HX1.out.two 8
    go_wp2_with fail
    refine (HC2.out _ HX1.out.below).mono ?_
    rintro e w2 ⟨⟨x, rfl, hx⟩, hb2⟩
    have HX2 := Hid.mk (HX1.out.keep hb2)
    clear hb2 p0 p1 p2 p3 p4 q0 q1 q2 q3 q4 q5 q6 q7 q8
    cases R with
    | none =>
      obtain rfl : x = .nilIface := hx
      obtain ⟨rfl, rfl⟩ := HEA.out rfl
      have HT := Hid.mk (w_told_nil w2)
      clear HEA HEB
      go_wp2_with fail
      refine HT.out.mono ?_
      rintro e w3 ⟨rfl, hb3⟩
      have HX3 := Hid.mk (HX2.out.keep hb3)
      clear hb3
      go_wp2_with fail
      go_ret3
      exact ⟨⟨none, 0, rfl, Nat.le_refl _, ⟨fun h0 => absurd h0 (Nat.not_lt_zero _)⟩⟩, HX3.out.below⟩
    | some q =>
      obtain ⟨t, b2, rfl, hx⟩ := hx
      obtain ⟨rfl, rfl⟩ := HEB.out q rfl
      have HT := Hid.mk (w_told q.1 q.2 t b2 w2 hx (HG.out.keep HX2.out.below) (HL.out q rfl))
      clear HEA HEB hx
      go_wp2_with fail
      refine HT.out.mono ?_
      rintro e w3 ⟨⟨io3, cap3, rfl, hc3, hi3⟩, hb3⟩
      have HX3 := Hid.mk (HX2.out.keep hb3)
      have HF := Hid.mk (show WhO w3 q.1 io3 cap3 from ⟨hc3, hi3⟩)
      clear hb3 hi3 hc3
      go_wp2_with fail
      go_ret3
      exact ⟨⟨io3, cap3, rfl, HF.out⟩, HX3.out.below⟩
/-- THE PROGRAM'S Why, of every value and type -/
theorem w_mWhy (hv h : Nat) (V : VT) (T : TT) (vv vt : Value) (w : World) (hI : InH w hv V vv) (hT : InT w h T vt) (ht : Tab2 w) (hg : ErrT w) (hl : ∀ q, agN h V T = some q → q.1.length ≤ 1048576) :
    Calls Tryz.prog 12 #[vv, vt] w fun e w' => (∃ io cap, e = .returned (.tuple #[.slice io (whR hv h V T).1.length cap, .int .i64 (whR hv h V T).2.1, .int .i64 (whR hv h V T).2.2]) ∧ WhO w' (whR hv h V T).1 io cap) ∧ Below w.heap.size w w' := by
  have HI := hI
  obtain ⟨io, icap, vo, vcap, rfl⟩ := inH_shape hI
  have hTs := hT
  obtain ⟨sa, sb, sc, sd, ⟨seo, sen, sec⟩, sf, ⟨sgo, sgn, sgc⟩, ⟨sio, sinn, sic⟩, ⟨sjo, sjn, sjc⟩, rfl⟩ := inT_shape hT
  refine why_v _ _ _ _ _ _ _ _ _ _ _ _ _ _ _ _ _ _ _ _ _ _ _ _ _ _ w (agN h V T) (formN hv V && fmN h T) _ _ _ (Hid.mk fun u hu => w_mformed hv h V T _ _ u (hI.keep hu) (hT.keep hu)) (fun hf u hu => ?_) hg hl (fun hf => ?_) (fun hf => ?_)
  · have h2 := Bool.and_eq_true _ _ ▸ hf
    exact w_against h hv V T _ _ u (hI.keep hu) h2.1 h2.2 (hT.keep hu) (ht.keep hu)
  · unfold whR; rw [hf]
    refine ⟨fun e => ?_, fun q e => ?_, ?_⟩
    · rw [e]; exact ⟨rfl, rfl⟩
    · rw [e]; exact ⟨rfl, rfl⟩
    · cases agN h V T <;> rfl
  · unfold whR; rw [hf]; exact ⟨rfl, rfl, rfl⟩
end Go.Proofs.YtapjfocjeligiaaGreatDoor
