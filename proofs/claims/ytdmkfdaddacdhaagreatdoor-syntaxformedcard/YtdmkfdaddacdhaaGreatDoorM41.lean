import Derived.Test.YtdmkfdaddacdhaaGreatDoorM39
import Derived.Test.YtdmkfdaddacdhaaGreatDoorM40
namespace Go.Proofs.YtdmkfdaddacdhaaGreatDoor
open Go.RowKit Go.Shelf
set_option linter.unusedVariables false
set_option linter.unusedSimpArgs false

/-- no suffix stands here, nor "as" -/
structure NoSuf (ws : List Tok) (t : Nat) : Prop where
  k4 : (hrP ws t).kind ≠ 4
  k6 : (hrP ws t).kind ≠ 6
  k7 : (hrP ws t).kind ≠ 7
  dot : syP ws t [46] = false
  bra : syP ws t [91] = false
  ask : syP ws t [63] = false
  as_ : syP ws t [97, 115] = false
/-- none of these words stands here -/
structure NoKw (ws : List Tok) (t : Nat) : Prop where
  tr : syP ws t [116, 114, 121] = false
  re : syP ws t [114, 101, 100, 117, 99, 101] = false
  fo : syP ws t [102, 111, 114, 101, 97, 99, 104] = false
  mi : syP ws t [45] = false
  de : syP ws t [100, 101, 102] = false
  la : syP ws t [108, 97, 98, 101, 108] = false

theorem u_dot {B : Nat} {so : Option Addr} {sc : Nat} {ws : List Tok} {nb t o : Nat} (ht : t < ws.length) (hk : (hrP ws t).kind = 10) (hx : (hrP ws t).text = [46]) (h1 : NoKw ws t) (h2 : NoSuf ws (t + 1)) :
    Hid (∀ u, PAt u B so sc ws nb t o → Calls Tryz.prog 163 #[.pointer (some ⟨B, 0, none⟩)] u fun e w' => NdR B so sc ws nb u (t + 1) o (fvD 1 ((hrP ws t).at_ : Int) 0 ⟨#[]⟩) e w') := fun u hu =>
  w_unary1 _ u hu h1.mi fun u hu => w_post1 _ u hu h1.tr h1.re h1.fo (fun u hu => w_term10 _ u hu hk fun u hu => w_marked1 _ u hu hx fun u hu => w_dot1 u hu ht h2.k6 h2.k7) (fun u hu => w_suffixed0 _ u hu h2.k4 h2.dot h2.bra h2.ask)
theorem u_num {B : Nat} {so : Option Addr} {sc : Nat} {ws : List Tok} {nb t o : Nat} (ht : t < ws.length) (hk : (hrP ws t).kind = 5) (h1 : NoKw ws t) (h2 : NoSuf ws (t + 1)) :
    Hid (∀ u, PAt u B so sc ws nb t o → Calls Tryz.prog 163 #[.pointer (some ⟨B, 0, none⟩)] u fun e w' => NdR B so sc ws nb u (t + 1) o (fvD 2 ((hrP ws t).at_ : Int) 3 ⟨(hrP ws t).text.toArray⟩) e w') := fun u hu =>
  w_unary1 _ u hu h1.mi fun u hu => w_post1 _ u hu h1.tr h1.re h1.fo (fun u hu => w_term5 u hu ht hk) (fun u hu => w_suffixed0 _ u hu h2.k4 h2.dot h2.bra h2.ask)

def txA : List UInt8 := [46, 32, 124, 32, 46]
def wsA : List Tok := [⟨10, 0, 1, [46], 0⟩, ⟨10, 2, 3, [124], 0⟩, ⟨10, 4, 5, [46], 0⟩]
def txB : List UInt8 := [49, 32, 50]
def wsB : List Tok := [⟨5, 0, 1, [49], 0⟩, ⟨5, 2, 3, [50], 0⟩]
theorem scA1 : scW txA = wsA := by
  unfold scW wsA
  rw [show idW txA 0 = 0 from by decide]
  rw [kn_step (q := 2) (op2 := []) (t := ⟨10, 0, 1, [46], 0⟩) (by decide) (by decide +kernel) rfl (by decide) (by decide)]
  rw [kn_step (q := 4) (op2 := []) (t := ⟨10, 2, 3, [124], 0⟩) (by decide) (by decide +kernel) rfl (by decide) (by decide)]
  rw [kn_step (q := 5) (op2 := []) (t := ⟨10, 4, 5, [46], 0⟩) (by decide) (by decide +kernel) rfl (by decide) (by decide)]
  rw [kn_end (by decide)]
theorem scB1 : scW txB = wsB := by
  unfold scW wsB
  rw [show idW txB 0 = 0 from by decide]
  rw [kn_step (q := 2) (op2 := []) (t := ⟨5, 0, 1, [49], 0⟩) (by decide) (by decide +kernel) rfl (by decide) (by decide)]
  rw [kn_step (q := 3) (op2 := []) (t := ⟨5, 2, 3, [50], 0⟩) (by decide) (by decide +kernel) rfl (by decide) (by decide)]
  rw [kn_end (by decide)]
theorem noPipe : NoOp [124] := by constructor <;> decide
theorem opNone : opOf ⟨10, 2, 3, [124], 0⟩ = ([], 0, 0, 0) := by
  unfold opOf
  rw [if_pos (.inl rfl), op_none noPipe]
  rfl

theorem whole_A {B : Nat} {so : Option Addr} {sc : Nat} {nb : Nat} (w : World) (hP : PAt w B so sc wsA nb 0 0) (hO : OpsIn w) (hBG : B ≠ 0) :
    Calls Tryz.prog 55 #[.pointer (some ⟨B, 0, none⟩)] w fun e w' => ∃ d, e = .returned (ND.v d) ∧ Bt B w w' ∧ PAt w' B so sc wsA nb 3 0 ∧ Kd d w' := by
  have O1 : Hid (∀ u, PAt u B so sc wsA nb 1 0 → OpsIn u → Calls Tryz.prog 182 #[.pointer (some ⟨B, 0, none⟩)] u fun e w' => e = .returned (opVl ([], 0, 0, 0)) ∧ Below u.heap.size u w') := fun u hu ho => by
    have := w_opMiss u hu ho (.inl rfl) noPipe
    rwa [show opOf (hrP wsA 1) = ([], 0, 0, 0) from opNone] at this
  have O3 : Hid (∀ u, PAt u B so sc wsA nb 3 0 → OpsIn u → Calls Tryz.prog 182 #[.pointer (some ⟨B, 0, none⟩)] u fun e w' => e = .returned (opVl ([], 0, 0, 0)) ∧ Below u.heap.size u w') := fun u hu ho => by
    have := w_opNo u hu (by decide) (by decide)
    rwa [show opOf (hrP wsA 3) = ([], 0, 0, 0) from rfl] at this
  have U0 := u_dot (B := B) (so := so) (sc := sc) (ws := wsA) (nb := nb) (t := 0) (o := 0) (by decide) rfl rfl (by constructor <;> decide) (by constructor <;> decide)
  have U2 := u_dot (B := B) (so := so) (sc := sc) (ws := wsA) (nb := nb) (t := 2) (o := 0) (by decide) rfl rfl (by constructor <;> decide) (by constructor <;> decide)
  refine w_whole1 w hP hO rfl fun u hu ho => ?_
  refine (w_pipe1 2 (fvD 1 0 0 ⟨#[]⟩) (fvD 1 4 0 ⟨#[]⟩) u hu ho hBG (fun u hu ho => w_link1 (fvD 1 0 0 ⟨#[]⟩) u hu ho hBG (by decide) (by decide) (by decide) (by decide) (by decide) (by decide) U0 O1) (fun u hu ho => w_link0 (fvD 1 4 0 ⟨#[]⟩) u hu ho hBG (by decide) (by decide) (by decide) (by decide) (by decide) U2 O3)).mono ?_
  rintro e w' ⟨g', c', rfl, hc, hb, hp, h10⟩
  exact ⟨⟨12, 2, 0, ⟨#[]⟩, ⟨#[]⟩, ⟨#[]⟩, none, none, none, some ⟨g', 0, none⟩, 0, 0, 0, 0, 0, 0, 2, c'⟩, rfl, hb, hp, rfl, rfl, rfl, hc, g', rfl, h10⟩
theorem whole_B {B : Nat} {so : Option Addr} {sc : Nat} {nb : Nat} (w : World) (hP : PAt w B so sc wsB nb 0 0) (hO : OpsIn w) (hBG : B ≠ 0) :
    Calls Tryz.prog 55 #[.pointer (some ⟨B, 0, none⟩)] w fun e w' => e = .panicked (fcs 171 2) ∧ Bt B w w' := by
  have O1 : Hid (∀ u, PAt u B so sc wsB nb 1 0 → OpsIn u → Calls Tryz.prog 182 #[.pointer (some ⟨B, 0, none⟩)] u fun e w' => e = .returned (opVl ([], 0, 0, 0)) ∧ Below u.heap.size u w') := fun u hu ho => by
    have := w_opNo u hu (by decide) (by decide)
    rwa [show opOf (hrP wsB 1) = ([], 0, 0, 0) from rfl] at this
  have U0 := u_num (B := B) (so := so) (sc := sc) (ws := wsB) (nb := nb) (t := 0) (o := 0) (by decide) rfl (by constructor <;> decide) (by constructor <;> decide)
  exact w_whole0 _ w hP hO (by decide) fun u hu ho => w_pipe0 _ u hu ho fun u hu ho => w_link0 _ u hu ho hBG (by decide) (by decide) (by decide) (by decide) (by decide) U0 O1

/-- works()'s first filter -/
theorem w_parseA (w : World) (hE : ErrIn w) (hO : OpsIn w) : Calls Tryz.prog 10 #[.string ⟨#[46, 32, 124, 32, 46]⟩] w fun e w' => ∃ d, e = .returned (.tuple #[ND.v d, .int .i64 0, .int .i64 0]) ∧ Below w.heap.size w w' ∧ Kd d w' := by
  refine (w_parse ⟨#[46, 32, 124, 32, 46]⟩ wsA (by decide) scA1 (by decide) (by decide) w hE hO (fun d er q u => er = 0 ∧ q = 0 ∧ Kd d u) (fun d er q u u' h hb => ⟨h.1, h.2.1, h.2.2.low hb⟩) (fun d er q u u' B o cs t h hp hb hc => ⟨h.1, h.2.1, h.2.2.put hp hb hc⟩) (fun u so sc hr hc ha ho => ?_)).mono ?_
  · refine (w_caught1 (t1 := 3) (o1 := 0) u hr hc (by decide) ha ho fun u' hp ho' => whole_A u' hp ho' (by have := ho.lt; omega)).mono ?_
    rintro e w' ⟨d, rfl, hb, hk⟩
    exact ⟨d, 0, 0, rfl, hb, rfl, rfl, hk⟩
  · rintro e w' ⟨d, er, q, rfl, hb, rfl, rfl, hk⟩
    exact ⟨d, rfl, hb, hk⟩
theorem w_parseB (w : World) (hE : ErrIn w) (hO : OpsIn w) : Calls Tryz.prog 10 #[.string ⟨#[49, 32, 50]⟩] w fun e w' => e = .returned (.tuple #[ND.v (fvD 0 0 0 ⟨#[]⟩), .int .i64 171, .int .i64 2]) ∧ Below w.heap.size w w' := by
  refine (w_parse ⟨#[49, 32, 50]⟩ wsB (by decide) scB1 (by decide) (by decide) w hE hO (fun d er q u => er = 171 ∧ q = 2 ∧ d = fvD 0 0 0 ⟨#[]⟩) (fun d er q u u' h hb => h) (fun d er q u u' B o cs t h hp hb hc => h) (fun u so sc hr hc ha ho => ?_)).mono ?_
  · refine (w_caught0 171 2 u hr hc (by decide) ha ho fun u' hp ho' => whole_B u' hp ho' (by have := ho.lt; omega)).mono ?_
    rintro e w' ⟨rfl, hb⟩
    exact ⟨fvD 0 0 0 ⟨#[]⟩, 171, 2, rfl, hb, rfl, rfl, rfl⟩
  · rintro e w' ⟨d, er, q, rfl, hb, rfl, rfl, rfl⟩
    exact ⟨rfl, hb⟩
end Go.Proofs.YtdmkfdaddacdhaaGreatDoor
namespace Go.Proofs.YtdmkfdaddacdhaaGreatDoor
open Go.RowKit Go.Shelf
set_option linter.unusedVariables false
set_option linter.unusedSimpArgs false
attribute [local go_sem] Oper.semAt_some

set_option maxRecDepth 100000 in
set_option maxHeartbeats 3200000 in
theorem w_worksS (w : World) (hE : ErrIn w) (hO : OpsIn w) : Calls Tryz.prog 13 #[] w fun e w' => e = .returned (.bool true) ∧ Below w.heap.size w w' := by
  have HA : Hid (∀ u, Below w.heap.size w u → Calls Tryz.prog 10 #[.string ⟨#[46, 32, 124, 32, 46]⟩] u fun e w' => ∃ d, e = .returned (.tuple #[ND.v d, .int .i64 0, .int .i64 0]) ∧ Below u.heap.size u w' ∧ Kd d w') := fun u hb => w_parseA u (hE.keep hb) (hO.keep hb)
  have HB : Hid (∀ u, Below w.heap.size w u → Calls Tryz.prog 10 #[.string ⟨#[49, 32, 50]⟩] u fun e w' => e = .returned (.tuple #[ND.v (fvD 0 0 0 ⟨#[]⟩), .int .i64 171, .int .i64 2]) ∧ Below u.heap.size u w') := fun u hb => w_parseB u (hE.keep hb) (hO.keep hb)
  clear hE hO
  unfold ND.v fvD at HB
  dsimp only at HB
  go_enter Tryz.func13, Tryz.ntmps13
  go_wp2_with fail
  refine (HA.out _ (Below.refl _ _)).mono ?_
  rintro e w1 ⟨⟨op, at_, vk, tx, nu, vt, io, yo, no, ko, iN, ic, yN, yc, nN, nc, kN, kc⟩, rfl, hb1, h1, h2, h3, h4, g', h5, h6⟩
  dsimp only at h1 h2 h3 h4 h5
  subst h1 h2 h3 h5
  have HB1 := Hid.mk hb1
  have HK1 := Hid.mk h6
  clear hb1 h6
  unfold ND.v
  dsimp only
  obtain ⟨W2, hW2⟩ : ∃ W2, w1.alloc (.cells #[.int .i64 12, .int .i64 2, .string tx, .int .i64 vk, .string nu, .string vt, .slice io iN ic, .slice yo yN yc, .slice no nN nc, (.slice (some ⟨g', 0, none⟩) 2 kc)] 28) = W2 := ⟨_, rfl⟩
  have hn2 : W2.heap[w1.heap.size]? = some (.cells #[.int .i64 12, .int .i64 2, .string tx, .int .i64 vk, .string nu, .string vt, .slice io iN ic, .slice yo yN yc, .slice no nN nc, (.slice (some ⟨g', 0, none⟩) 2 kc)] 28 (0, 0)) := by rw [← hW2]; exact heap_alloc_new w1 _
  have hb2 : Below w1.heap.size w1 W2 := by rw [← hW2]; exact below1 w1 _
  have HB2 : Hid (Below w.heap.size w W2) := HB1.out.trans (hb2.mono HB1.out.size)
  have HK2 : Hid (W2.cell? ⟨g', 10, none⟩ = some (.int .i64 1)) := (hb2.cell (p := ⟨g', 10, none⟩) (block_lt_of_cell HK1.out)).trans HK1.out
  have HN2 := Hid.mk hn2
  clear hn2 hb2
  go_wp2_with fail
  refine (HB.out _ HB2.out).mono ?_
  rintro e w3 ⟨rfl, hb3⟩
  have hs2 : w1.heap.size < W2.heap.size := (Array.getElem?_eq_some_iff.1 HN2.out).1
  have hn3 := (hb3.block _ hs2).trans HN2.out
  have HB3 : Hid (Below w.heap.size w w3) := HB2.out.trans (hb3.mono HB2.out.size)
  have HK3 : Hid (w3.cell? ⟨g', 10, none⟩ = some (.int .i64 1)) := (hb3.cell (p := ⟨g', 10, none⟩) (block_lt_of_cell HK2.out)).trans HK2.out
  have hs3 : w1.heap.size < w3.heap.size := Nat.lt_of_lt_of_le hs2 hb3.size
  clear hW2 hb3
  obtain ⟨i0, i1, i2, i3, i4, i5, i6, i7, i8, i9⟩ := nd_cellsA hn3 hs3
  have k10 : ∀ x, (w3.alloc x).cell? ⟨g', 10, none⟩ = some (.int .i64 1) := fun x => ((below1 w3 x).cell (p := ⟨g', 10, none⟩) (block_lt_of_cell HK3.out)).trans HK3.out
  clear hn3
  go_wp2_with fail
  go_ret
  exact ⟨rfl, HB3.out.trans ((below1 w3 _).mono HB3.out.size)⟩

end Go.Proofs.YtdmkfdaddacdhaaGreatDoor
