import Derived.Test.YtaflpeajapdkdaaM33
import Derived.Test.YtaflpeajapdkdaaM35
namespace Go.Proofs.Ytaflpeajapdkdaa
open Go.RowKit Go.Maps Go.Sort Go.Shelf
set_option linter.unusedVariables false
set_option linter.unusedSimpArgs false
attribute [local go_sem] Oper.semAt_some

/-- what Each has kept: a copy in a box, its rows behind it -/
def KeptE (w w' : World) (h : Nat) (T : VT) (A : Nat) (io : Option Addr) (ic : Nat) (ko : Option Addr) (kc : Nat) : Prop :=
  w.heap.size ≤ A ∧ Below w.heap.size w w' ∧ w'.heap[A]? = some (.cells #[.int .i64 T.kind, .string T.num, .string T.text, .slice io T.items.length ic, .slice ko T.keys.length kc] 25 (0, 0)) ∧ InO (A + 1) w' h T (.agg #[.int .i64 T.kind, .string T.num, .string T.text, .slice io T.items.length ic, .slice ko T.keys.length kc])

set_option maxRecDepth 100000 in
set_option maxHeartbeats 6400000 in
/-- Each of what is well shaped -/
theorem w_Each (h : Nat) (T : VT) (v : Value) (w : World) (hI : InH w (h + 1) T v) (hs : szN (h + 1) T ≤ 1048577) (hf : formN (h + 1) T = true) : Calls Try.prog 4 #[v] w fun e w' =>
    ∃ A io ic ko kc, e = .returned (.func (.func 14) #[] #[.pointer (some ⟨A, 0, none⟩)]) ∧ Hid (KeptE w w' (h + 1) T A io ic ko kc) := by
  obtain ⟨io, ic, ko, kc, rfl, _⟩ := hI.open
  obtain ⟨V, hV⟩ : ∃ V, (w.alloc (.cells #[.int .i64 T.kind, .string T.num, .string T.text, .slice io T.items.length ic, .slice ko T.keys.length kc] 25)).alloc (.cells #[.int .i64 0, .string ⟨#[]⟩, .string ⟨#[]⟩, .slice none 0 0, .slice none 0 0] 25) = V := ⟨_, rfl⟩
  have hb : Below w.heap.size w V := by rw [← hV]; exact below2 w _ _
  have hVs : V.heap.size = w.heap.size + 2 := by rw [← hV]; simp
  have HV0 : Hid (V.heap[w.heap.size]? = some (.cells #[.int .i64 T.kind, .string T.num, .string T.text, .slice io T.items.length ic, .slice ko T.keys.length kc] 25 (0, 0))) := by
    show _ = _; rw [← hV]; exact (Below.heap_alloc _ _ _ (by simp)).trans (heap_alloc_new w _)
  have HV1 : Hid (V.heap[w.heap.size + 1]? = some (.cells #[.int .i64 0, .string ⟨#[]⟩, .string ⟨#[]⟩, .slice none 0 0, .slice none 0 0] 25 (0, 0))) := by
    show _ = _
    rw [← hV]
    have := heap_alloc_new (w.alloc (.cells #[.int .i64 T.kind, .string T.num, .string T.text, .slice io T.items.length ic, .slice ko T.keys.length kc] 25)) (.cells #[.int .i64 0, .string ⟨#[]⟩, .string ⟨#[]⟩, .slice none 0 0, .slice none 0 0] 25)
    rwa [World.size_alloc] at this
  have hIV := hI.keep hb
  have HF := Hid.mk (w_vFormed (h + 1) T _ V hIV)
  rw [hf] at HF
  have HT := Hid.mk (fun u (hu : Below V.heap.size V u) => w_TwinO (h + 1) T _ u (hIV.keep hu) hs)
  have HB := Hid.mk hb
  clear hI hIV hb hf hs
  have p0 := cell_of_row _ _ 0 _ _ _ HV0.out
  have p1 := cell_of_row _ _ 1 _ _ _ HV0.out
  have p2 := cell_of_row _ _ 2 _ _ _ HV0.out
  have p3 := cell_of_row _ _ 3 _ _ _ HV0.out
  have p4 := cell_of_row _ _ 4 _ _ _ HV0.out
  go_enter Try.func4, Try.ntmps4
  go_wp2_with fail
  clear p0 p1 p2 p3 p4
  refine HF.out.mono ?_
  rintro e u ⟨rfl, hbu⟩
  have HU := Hid.mk hbu
  have hu0 : u.heap[w.heap.size]? = _ := (hbu.block _ (by omega)).trans HV0.out
  have q0 := cell_of_row _ _ 0 _ _ _ hu0
  have q1 := cell_of_row _ _ 1 _ _ _ hu0
  have q2 := cell_of_row _ _ 2 _ _ _ hu0
  have q3 := cell_of_row _ _ 3 _ _ _ hu0
  have q4 := cell_of_row _ _ 4 _ _ _ hu0
  clear hu0 hbu HF
  go_wp2_with fail
  refine (HT.out u HU.out).mono ?_
  rintro e u2 ⟨v2, rfl, hO, hb2⟩
  obtain ⟨io2, ic2, ko2, kc2, rfl, _⟩ := hO.1
  have hu1 : u2.heap[w.heap.size + 1]? = _ := (hb2.block _ (by have := HU.out.size; omega)).trans ((HU.out.block _ (by omega)).trans HV1.out)
  have r0 := cell_of_row _ _ 0 _ _ _ hu1
  have r1 := cell_of_row _ _ 1 _ _ _ hu1
  have r2 := cell_of_row _ _ 2 _ _ _ hu1
  have r3 := cell_of_row _ _ 3 _ _ _ hu1
  have r4 := cell_of_row _ _ 4 _ _ _ hu1
  have fr : ∀ j, u2.frozen? ⟨w.heap.size + 1, j, none⟩ = false := fun j => frozen_row hu1
  have HO := Hid.mk hO
  have HB2 := Hid.mk hb2
  have HU1 := Hid.mk hu1
  clear hO hb2 hu1 HT q0 q1 q2 q3 q4
  go_wp2_with fail
  obtain ⟨wz, hwz⟩ : ∃ wz, ((((u2.setCell ⟨w.heap.size + 1, 0, none⟩ (.int .i64 T.kind)).setCell ⟨w.heap.size + 1, 1, none⟩ (.string T.num)).setCell ⟨w.heap.size + 1, 2, none⟩ (.string T.text)).setCell ⟨w.heap.size + 1, 3, none⟩ (.slice io2 T.items.length ic2)).setCell ⟨w.heap.size + 1, 4, none⟩ (.slice ko2 T.keys.length kc2) = wz := ⟨_, rfl⟩
  rw [hwz]
  obtain ⟨zb, zo, zs, zbl⟩ := set5 u2 (w.heap.size + 1) _ _ _ _ _ _ _ _ _ _ _ HU1.out wz hwz.symm
  have hus := HU.out.size
  have HFin : Hid (KeptE w wz (h + 1) T (w.heap.size + 1) io2 ic2 ko2 kc2) := by
    refine ⟨by omega, ((HB.out.trans (HU.out.mono (by omega))).trans (HB2.out.mono (by omega))).trans (zbl _ (by omega)), zb, InO.keepB (by omega) (fun b hb1 hb2 => zo b (by omega)) (by omega) HO.out⟩
  go_ret
  exact ⟨_, _, _, _, _, rfl, HFin⟩
end Go.Proofs.Ytaflpeajapdkdaa
namespace Go.Proofs.Ytaflpeajapdkdaa
open Go.RowKit Go.Maps Go.Sort Go.Shelf
set_option linter.unusedVariables false
set_option linter.unusedSimpArgs false

/-- what the caller of Each's iterator may do with what it is handed -/
def KpE (B M : Nat) {N : Nat} (x : EX N) (W W' : World) : Prop := KpM x.2.2 B W W' ∧ KeepsTo M x.2.2 W W'
theorem KpE.trans {B M N : Nat} {x : EX N} {X Y Z : World} (h : KpE B M x X Y) (k : KpE B M x Y Z) : KpE B M x X Z := ⟨h.1.trans k.1, h.2.trans k.2⟩
theorem KpM.putObj {m B : Nat} {W : World} {D : Nat} {r r' : Loop} (h : W.heap[D]? = some (.loop r)) : KpM m B W (W.putObj D (.loop r')) :=
  ⟨rfl, rfl, rfl, by simp [World.putObj], fun b o _ _ ho hc => (KpN.putObj (B := b + 1) h).same b o (by omega) ho hc⟩
theorem KpE.putObj {B M N : Nat} {x : EX N} {W : World} {D : Nat} {r r' : Loop} (h : W.heap[D]? = some (.loop r)) (hD : D < M) : KpE B M x W (W.putObj D (.loop r')) :=
  ⟨KpM.putObj h, (by simp [World.putObj]), fun b o hb _ ho _ => (World.putObj_heap_other (by omega)).trans ho⟩

/-- Each's iterator, as the range law asks for it -/
theorem each1_seq (h B A N K lo : Nat) (x0 : Int) (x1 x2 : ByteArray) (io : Option Addr) (ic : Nat) (ko : Option Addr) (kc : Nat) (ky : Nat → ByteArray) (c : Nat → Fin 5 → Value) (hN : N ≤ ic ∧ K ≤ kc) (hN2 : N ≤ 100000) (hK2 : K ≤ 100000) (hone : ∀ i, i < N → OneC (c i)) (ts : List VT) (lts : ts.length = N) (hsz : ∀ x ∈ ts, szN h x ≤ 1048577)
    (w0 : World) (hB0 : B < w0.heap.size) (hlo : B < lo) (hS0 : InK w0 B A N K (.int .i64 x0) (.string x1) (.string x2) io ic ko kc ky c) (hT : ∀ i x, ts[i]? = some x → InF lo w0 h x (.agg #[c i 0, c i 1, c i 2, c i 3, c i 4])) :
    SeqA 6 Try.prog 14 #[.pointer (some ⟨A, 0, none⟩)] (encE (N := N) K ky) (KpE B (w0.heap.size + 2)) (EAt h (w0.heap.size + 2) ts) (fun xs => xs.map (·.1.1) = List.range N) (fun pre => pre.map (·.1.1) = List.range pre.length) N w0 := by
  intro l J Jx W hb hs hJ hJx hY h0
  have hbs := hb.size
  exact each1_in h l B A N K lo x0 x1 x2 io ic ko kc ky c hN hN2 hK2 hone ts lts hsz J Jx W (by omega) hlo (hS0.keep (KpN.of_below hb)) (fun i x hx => InF.keepN (KpN.of_below hb) hlo (hT i x hx)) hJ hJx
    (fun pre x W1 g1 g2 g3 g4 => by
      obtain ⟨fn, tmps, assign, body, y1, y2⟩ := hY pre x W1 g1 ⟨Nat.le_trans hs g2.1, g2.2⟩ g3 g4
      refine ⟨fn, tmps, assign, body, y1, RoundIn.mono y2 fun e W' hp => ?_⟩
      rcases hp with ⟨e1, e2, e3, e4⟩ | ⟨e1, e2, e3, e4⟩
      · exact .inl ⟨e1, e2, e3, e4.mono (by omega) (Nat.le_refl _)⟩
      · exact .inr ⟨e1, e2, e3, e4.mono (by omega) (Nat.le_refl _)⟩) h0

/-- what Each has kept, as its iterator reads it -/
theorem KeptE.inK {w w' : World} {h : Nat} {T : VT} {A : Nat} {io : Option Addr} {ic : Nat} {ko : Option Addr} {kc : Nat} (k : KeptE w w' (h + 1) T A io ic ko kc) {B : Nat} (hB : B < A) :
    T.items.length ≤ ic ∧ T.keys.length ≤ kc ∧ ∃ c : Nat → Fin 5 → Value, (∀ i, i < T.items.length → OneC (c i)) ∧ InK w' B A T.items.length T.keys.length (.int .i64 T.kind) (.string T.num) (.string T.text) io ic ko kc (fun i => T.keys.getD i .empty) c ∧ ∀ i x, T.items[i]? = some x → InF (A + 1) w' h x (.agg #[c i 0, c i 1, c i 2, c i 3, c i 4]) := by
  obtain ⟨h1, h2, h3, ⟨io', ic', ko', kc', e, _, _, _, _, a5, a6, _, hk, hi⟩, _⟩ := k
  simp only [Value.agg.injEq, Array.mk.injEq, List.cons.injEq, Value.slice.injEq, true_and, and_true] at e
  obtain ⟨⟨rfl, rfl⟩, rfl, rfl⟩ := e
  have hch : ∀ i, ∃ f : Fin 5 → Value, ∀ (hi' : i < T.items.length), (∃ b off, io = some ⟨b, off, none⟩ ∧ A + 1 ≤ b ∧ w'.cell? ⟨b, off + i * 5, none⟩ = some (f 0) ∧ w'.cell? ⟨b, off + i * 5 + 1, none⟩ = some (f 1) ∧ w'.cell? ⟨b, off + i * 5 + 2, none⟩ = some (f 2) ∧ w'.cell? ⟨b, off + i * 5 + 3, none⟩ = some (f 3) ∧ w'.cell? ⟨b, off + i * 5 + 4, none⟩ = some (f 4)) ∧ InF (A + 1) w' h T.items[i] (.agg #[f 0, f 1, f 2, f 3, f 4]) := by
    intro i
    by_cases hl : i < T.items.length
    · obtain ⟨b, off, e1, hb, _, hc⟩ := hi (by omega)
      obtain ⟨v0, v1, v2, v3, v4, ⟨c0, c1, c2, c3, c4⟩, ht⟩ := hc i hl
      exact ⟨fun j => match j with | 0 => v0 | 1 => v1 | 2 => v2 | 3 => v3 | 4 => v4, fun _ => ⟨⟨b, off, e1, hb, c0, c1, c2, c3, c4⟩, ht⟩⟩
    · exact ⟨fun _ => undef, fun hl' => absurd hl' hl⟩
  refine ⟨a5, a6, fun i => Classical.choose (hch i), fun i hi' => ?_, ⟨h3, by omega, fun i hi' => ?_, fun i hi' => ?_⟩, fun i x hx => ?_⟩
  · obtain ⟨k1, n1, t1, o1, N1, c1, o2, K1, c2, e⟩ := InF.shape ((Classical.choose_spec (hch i)) hi').2
    simp only [Value.agg.injEq, Array.mk.injEq, List.cons.injEq, and_true] at e
    exact ⟨k1, n1, t1, o1, N1, c1, o2, K1, c2, e⟩
  · obtain ⟨b, off, e1, hb, hl, hc⟩ := hk (by omega)
    exact ⟨b, off, e1, by omega, hl, hc i hi'⟩
  · obtain ⟨⟨b, off, e1, hb, hc⟩, _⟩ := (Classical.choose_spec (hch i)) hi'
    exact ⟨b, off, e1, by omega, hc⟩
  · obtain ⟨hl, rfl⟩ := List.getElem?_eq_some_iff.1 hx
    exact ((Classical.choose_spec (hch i)) hl).2
end Go.Proofs.Ytaflpeajapdkdaa
