import Derived.Test.YtaflpeajapdkdaaM27
import Derived.Test.YtaflpeajapdkdaaM26
namespace Go.Proofs.Ytaflpeajapdkdaa
open Go.RowKit Go.Maps Go.Sort Go.Shelf
set_option linter.unusedVariables false
set_option linter.unusedSimpArgs false
attribute [local go_sem] Oper.semAt_some

/-- all cells but one box are as they were -/
structure KpN (B : Nat) (W W' : World) : Prop where
  os : W'.os = W.os
  tape : W'.tape = W.tape
  output : W'.output = W.output
  size : W.heap.size ≤ W'.heap.size
  same : ∀ b o, b ≠ B → W.heap[b]? = some o → o.isCells = true → W'.heap[b]? = some o
theorem KpN.trans {B : Nat} {X Y Z : World} (h : KpN B X Y) (k : KpN B Y Z) : KpN B X Z :=
  ⟨k.os.trans h.os, k.tape.trans h.tape, k.output.trans h.output, Nat.le_trans h.size k.size, fun b o hb ho hc => k.same b o hb (h.same b o hb ho hc) hc⟩
theorem KpN.of_below {B : Nat} {W W' : World} (hb : Below W.heap.size W W') : KpN B W W' :=
  ⟨hb.os, hb.tape, hb.output, hb.size, fun b o _ ho _ => (hb.block b (Array.getElem?_eq_some_iff.1 ho).1).trans ho⟩
theorem KpN.cell {B : Nat} {W W' : World} (h : KpN B W W') {b o : Nat} {v : Value} (hb : b ≠ B) (hc : W.cell? ⟨b, o, none⟩ = some v) : W'.cell? ⟨b, o, none⟩ = some v := by
  cases ho : W.heap[b]? with
  | none => simp [World.cell?, ho] at hc
  | some x =>
    cases x with
    | cells cs t fr => exact (World.cell?_of_block (a := ⟨b, o, none⟩) ((h.same b _ hb ho rfl).trans ho.symm)).trans hc
    | _ => simp [World.cell?, ho] at hc
/-- what inside's iterator reads: a value in a box, and its rows; all of it apart from the box that changes -/
structure InK (W : World) (B A N K : Nat) (x0 x1 x2 : Value) (io : Option Addr) (ic : Nat) (ko : Option Addr) (kc : Nat) (ky : Nat → ByteArray) (c : Nat → Fin 5 → Value) : Prop where
  box : W.heap[A]? = some (.cells #[x0, x1, x2, .slice io N ic, .slice ko K kc] 25 (0, 0))
  far : A ≠ B
  keys : ∀ i, i < K → ∃ b off, ko = some ⟨b, off, none⟩ ∧ b ≠ B ∧ b < W.heap.size ∧ W.cell? ⟨b, off + i, none⟩ = some (.string (ky i))
  items : ∀ i, i < N → ∃ b off, io = some ⟨b, off, none⟩ ∧ b ≠ B ∧ W.cell? ⟨b, off + i * 5, none⟩ = some (c i 0) ∧ W.cell? ⟨b, off + i * 5 + 1, none⟩ = some (c i 1) ∧ W.cell? ⟨b, off + i * 5 + 2, none⟩ = some (c i 2) ∧ W.cell? ⟨b, off + i * 5 + 3, none⟩ = some (c i 3) ∧ W.cell? ⟨b, off + i * 5 + 4, none⟩ = some (c i 4)
theorem InK.keep {W W' : World} {B A N K : Nat} {x0 x1 x2 : Value} {io : Option Addr} {ic : Nat} {ko : Option Addr} {kc : Nat} {ky : Nat → ByteArray} {c : Nat → Fin 5 → Value} (h : InK W B A N K x0 x1 x2 io ic ko kc ky c) (hk : KpN B W W') : InK W' B A N K x0 x1 x2 io ic ko kc ky c := by
  refine ⟨hk.same A _ h.far h.box rfl, h.far, fun i hi => ?_, fun i hi => ?_⟩
  · obtain ⟨b, off, e, hl, hs, a0⟩ := h.keys i hi
    exact ⟨b, off, e, hl, Nat.lt_of_lt_of_le hs hk.size, hk.cell hl a0⟩
  · obtain ⟨b, off, e, hl, a0, a1, a2, a3, a4⟩ := h.items i hi
    exact ⟨b, off, e, hl, hk.cell hl a0, hk.cell hl a1, hk.cell hl a2, hk.cell hl a3, hk.cell hl a4⟩
/-- the key beside an item -/
def kyF (K : Nat) (ky : Nat → ByteArray) (i : Nat) : ByteArray := if i < K then ky i else ⟨#[]⟩

set_option maxRecDepth 100000 in
set_option maxHeartbeats 6400000 in
theorem inside1_inK (n : Nat) (hn : 1 ≤ n) (l B A N K : Nat) (x0 x1 x2 : Value) (io : Option Addr) (ic : Nat) (ko : Option Addr) (kc : Nat) (ky : Nat → ByteArray) (c : Nat → Fin 5 → Value) (hN : N ≤ ic ∧ K ≤ kc) (hN2 : N ≤ 100000) (hK2 : K ≤ 100000) (hone : ∀ i, i < N → OneC (c i))
    (J Jx : List { i : Nat // i < N } → World → Prop) (W : World) (hS0 : InK W B A N K x0 x1 x2 io ic ko kc ky c) (hJ : OwnFrom W.heap.size J) (hJx : OwnFrom W.heap.size Jx)
    (hY : ∀ pre (x : { i : Nat // i < N }) W1, J pre W1 → pre.length < N → (pre ++ [x]).map (·.1) = List.range (pre ++ [x]).length → YieldAt Fence.wide (n - 1) Try.prog l (encK (kyF K ky) c x.1) W1 fun e W' =>
      (e = .returned (.bool true) ∧ J (pre ++ [x]) W' ∧ KpN B W1 W') ∨ (e = .returned (.bool false) ∧ Jx (pre ++ [x]) W' ∧ KpN B W1 W')) (h0 : J [] W) :
    CallsIn Fence.wide n Try.prog 35 #[.func (.yield l) #[] #[], .pointer (some ⟨A, 0, none⟩)] W fun e W' => (∃ v, e = .returned v) ∧
      ((∃ xs, xs.map (·.1) = List.range N ∧ J xs W') ∨ (∃ pre : List { i : Nat // i < N }, pre.map (·.1) = List.range pre.length ∧ Jx pre W')) := by
  have HJ := Hid.mk hJ
  have HY := Hid.mk hY
  have H0 := Hid.mk h0
  have HO := Hid.mk hone
  have HSt := Hid.mk hS0
  have g3 := cell_of_row _ _ 3 _ _ _ hS0.box
  obtain ⟨hNi, hNk⟩ := hN
  clear hJ hJx hY h0 hone hS0
  refine callsIn_of_wp Try.func35 rfl trivial ?_ rfl
  simp only [Try.ntmps35, List.size_toArray, List.length_cons, List.length_nil, Nat.reduceAdd, Nat.reduceSub, Array.replicate_succ, Array.replicate_zero, List.push_toArray, List.append_toArray, List.nil_append, List.cons_append]
  gi_wp2_with fail
  clear g3
  gi_loopw [9] (fun i wr => ∃ (k : Nat), k ≤ N ∧ i = .int .i64 (k : Int) ∧ W.heap.size ≤ wr.heap.size ∧ Hid (InK wr B A N K x0 x1 x2 io ic ko kc ky c ∧ ∃ pre : List { i : Nat // i < N }, pre.map (·.1) = List.range k ∧ J pre wr)) (fun i _ => N - (intOf i).toNat)
  case atStart => exact ⟨0, Nat.zero_le _, rfl, Nat.le_refl _, HSt.out, [], rfl, H0.out⟩
  case round =>
    clear HSt H0
    obtain ⟨k, hk, rfl, hw1, HQ⟩ := hrel
    by_cases hlt : k < N
    · have hl1 : (k : Int) < (N : Int) := by omega
      have hl0 : (0 : Int) ≤ (k : Int) := by omega
      obtain ⟨b, off, hio, hb, a0, a1, a2, a3, a4⟩ := HQ.out.1.items k hlt
      subst hio
      obtain ⟨ik, inm, itx, iio, iN, iicap, iko, iK, ikcap, o0, o1, o2, o3, o4⟩ := HO.out k hlt
      rw [o0] at a0; rw [o1] at a1; rw [o2] at a2; rw [o3] at a3; rw [o4] at a4
      by_cases hkK : k < K
      · have hkl1 : (k : Int) < (K : Int) := by omega
        obtain ⟨kb, koff, hko, hkb, hkbl, ck0⟩ := HQ.out.1.keys k hkK
        subst hko
        have g3 := cell_of_row _ _ 3 _ _ _ HQ.out.1.box
        have g4' := cell_of_row _ _ 4 _ _ _ HQ.out.1.box
        have hAl := (Array.getElem?_eq_some_iff.1 HQ.out.1.box).1
        have g4 : ∀ o, (wr.alloc o).cell? ⟨A, 4, none⟩ = some (.slice (some ⟨kb, koff, none⟩) K kc) := fun o => ((below1 wr o).cell (p := ⟨_, _, _⟩) hAl).trans g4'
        have ck : ∀ o, (wr.alloc o).cell? ⟨kb, koff + k, none⟩ = some (.string (ky k)) := fun o => ((below1 wr o).cell (p := ⟨kb, koff + k, none⟩) hkbl).trans ck0
        obtain ⟨pre, hpre, hJp⟩ := HQ.out.2
        have hpl : pre.length = k := by have := congrArg List.length hpre; simpa using this
        have hJ2 : J pre (wr.alloc (.cells #[.int .i64 ik, .string inm, .string itx, .slice iio iN iicap, .slice iko iK ikcap] 25)) := HJ.out _ _ _ none hJp (World.grownBy_alloc wr _ none) (fun r e => by cases e)
        have HPr : Hid ((pre ++ [(⟨k, hlt⟩ : { i : Nat // i < N })]).map (·.1) = List.range (k + 1)) := by show _ = _; rw [List.map_append, hpre, List.range_succ]; rfl
        obtain ⟨fn, tmps, assign, body, hy, hR⟩ := HY.out pre ⟨k, hlt⟩ _ hJ2 (by omega) (by rw [HPr.out, List.length_append, hpl]; rfl)
        unfold encK at hy
        dsimp only at hy
        rw [show kyF K ky k = ky k from by unfold kyF; rw [if_pos hkK]] at hy
        rw [o0, o1, o2, o3, o4] at hy
        have HRd := Hid.mk hR
        have HIn := Hid.mk (HQ.out.1.keep (KpN.of_below (below1 wr (.cells #[.int .i64 ik, .string inm, .string itx, .slice iio iN iicap, .slice iko iK ikcap] 25))))
        have HPl : Hid ((pre ++ [(⟨k, hlt⟩ : { i : Nat // i < N })]).length = k + 1) := by show _ = _; rw [List.length_append, hpl]; rfl
        generalize ky k = kk at ck hy
        clear hJ2 hJp hpre hpl hR o0 o1 o2 o3 o4 g4' ck0
        gi_wp2_with fail
        refine HRd.out.mono ?_
        rintro e W4 (⟨rfl, hJ4, hk4⟩ | ⟨rfl, hJx4, _⟩)
        · have HN : Hid (InK W4 B A N K x0 x1 x2 (some ⟨b, off, none⟩) ic (some ⟨kb, koff, none⟩) kc ky c ∧ ∃ pre : List { i : Nat // i < N }, pre.map (·.1) = List.range (k + 1) ∧ J pre W4) := ⟨HIn.out.keep hk4, _, HPr.out, hJ4⟩
          have hs4 := hk4.size
          rw [World.size_alloc] at hs4
          clear hJ4 hk4 hy HIn HPr HPl
          gi_wp2_with fail
          go_roundw
          case rel => exact ⟨k + 1, hlt, by go_num, by omega, HN⟩
          case measure => simp [intOf]; omega
        · have HX := Hid.mk hJx4
          have HPP : Hid (∃ pre : List { i : Nat // i < N }, pre.map (·.1) = List.range pre.length ∧ Jx pre W4) := ⟨_, by rw [HPr.out, HPl.out], HX.out⟩
          clear hJx4 hy HIn HPr HPl HX
          gi_wp2_with fail
          refine bodyPost_ret (results_none rfl _ _ _) rfl ?_
          exact ⟨⟨_, rfl⟩, .inr HPP.out⟩
      · have hkl1 : ¬ (k : Int) < (K : Int) := by omega
        have g3 := cell_of_row _ _ 3 _ _ _ HQ.out.1.box
        have g4' := cell_of_row _ _ 4 _ _ _ HQ.out.1.box
        have hAl := (Array.getElem?_eq_some_iff.1 HQ.out.1.box).1
        have g4 : ∀ o, (wr.alloc o).cell? ⟨A, 4, none⟩ = some (.slice ko K kc) := fun o => ((below1 wr o).cell (p := ⟨_, _, _⟩) hAl).trans g4'
        obtain ⟨pre, hpre, hJp⟩ := HQ.out.2
        have hpl : pre.length = k := by have := congrArg List.length hpre; simpa using this
        have hJ2 : J pre (wr.alloc (.cells #[.int .i64 ik, .string inm, .string itx, .slice iio iN iicap, .slice iko iK ikcap] 25)) := HJ.out _ _ _ none hJp (World.grownBy_alloc wr _ none) (fun r e => by cases e)
        have HPr : Hid ((pre ++ [(⟨k, hlt⟩ : { i : Nat // i < N })]).map (·.1) = List.range (k + 1)) := by show _ = _; rw [List.map_append, hpre, List.range_succ]; rfl
        obtain ⟨fn, tmps, assign, body, hy, hR⟩ := HY.out pre ⟨k, hlt⟩ _ hJ2 (by omega) (by rw [HPr.out, List.length_append, hpl]; rfl)
        unfold encK at hy
        dsimp only at hy
        rw [show kyF K ky k = ⟨#[]⟩ from by unfold kyF; rw [if_neg hkK]] at hy
        rw [o0, o1, o2, o3, o4] at hy
        have HRd := Hid.mk hR
        have HIn := Hid.mk (HQ.out.1.keep (KpN.of_below (below1 wr (.cells #[.int .i64 ik, .string inm, .string itx, .slice iio iN iicap, .slice iko iK ikcap] 25))))
        have HPl : Hid ((pre ++ [(⟨k, hlt⟩ : { i : Nat // i < N })]).length = k + 1) := by show _ = _; rw [List.length_append, hpl]; rfl
        clear hJ2 hJp hpre hpl hR o0 o1 o2 o3 o4  g4'
        gi_wp2_with fail
        refine HRd.out.mono ?_
        rintro e W4 (⟨rfl, hJ4, hk4⟩ | ⟨rfl, hJx4, _⟩)
        · have HN : Hid (InK W4 B A N K x0 x1 x2 (some ⟨b, off, none⟩) ic ko kc ky c ∧ ∃ pre : List { i : Nat // i < N }, pre.map (·.1) = List.range (k + 1) ∧ J pre W4) := ⟨HIn.out.keep hk4, _, HPr.out, hJ4⟩
          have hs4 := hk4.size
          rw [World.size_alloc] at hs4
          clear hJ4 hk4 hy HIn HPr HPl
          gi_wp2_with fail
          go_roundw
          case rel => exact ⟨k + 1, hlt, by go_num, by omega, HN⟩
          case measure => simp [intOf]; omega
        · have HX := Hid.mk hJx4
          have HPP : Hid (∃ pre : List { i : Nat // i < N }, pre.map (·.1) = List.range pre.length ∧ Jx pre W4) := ⟨_, by rw [HPr.out, HPl.out], HX.out⟩
          clear hJx4 hy HIn HPr HPl HX
          gi_wp2_with fail
          refine bodyPost_ret (results_none rfl _ _ _) rfl ?_
          exact ⟨⟨_, rfl⟩, .inr HPP.out⟩
    · have hl1 : ¬ (k : Int) < (N : Int) := by omega
      have hie : k = N := by omega
      obtain ⟨pre, hpre, hJp⟩ := HQ.out.2
      have HF : Hid (∃ xs : List { i : Nat // i < N }, xs.map (·.1) = List.range N ∧ J xs wr) := ⟨pre, by rw [hpre, hie], hJp⟩
      clear hie hpre hJp
      gi_wp2_with fail
      go_end0
      exact ⟨⟨_, rfl⟩, .inl HF.out⟩
end Go.Proofs.Ytaflpeajapdkdaa
namespace Go.Proofs.Ytaflpeajapdkdaa
open Go.RowKit Go.Shelf Go.Maps
set_option linter.unusedVariables false
set_option linter.unusedSimpArgs false

/-- what is no cells and lies from M on, below m, is as it was -/
structure KeepsTo (M m : Nat) (W W' : World) : Prop where
  size : W.heap.size ≤ W'.heap.size
  same : ∀ (k : Nat) (o : Obj), M ≤ k → k < m → W.heap[k]? = some o → o.isCells = false → W'.heap[k]? = some o
theorem KeepsTo.mono {M m M' m' : Nat} {W W' : World} (h : KeepsTo M m W W') (h1 : M ≤ M') (h2 : m' ≤ m) : KeepsTo M' m' W W' := ⟨h.size, fun k o a b => h.same k o (Nat.le_trans h1 a) (Nat.lt_of_lt_of_le b h2)⟩
theorem KeepsTo.trans {M m : Nat} {X Y Z : World} (h : KeepsTo M m X Y) (k : KeepsTo M m Y Z) : KeepsTo M m X Z := ⟨Nat.le_trans h.size k.size, fun i o a b c d => k.same i o a b (h.same i o a b c d) d⟩
theorem KeepsTo.of_from {M m : Nat} {W W' : World} (h : KeepsFrom M W W') : KeepsTo M m W W' := ⟨h.size, fun k o a _ => h.same k o a⟩
theorem BkO.keptTo {B : Nat} {r : Loop} {W W' : World} (h : BkO B r W) (hk : KeepsTo B (B + 2) W W') : BkO B r W' :=
  ⟨hk.same _ _ (Nat.le_succ _) (by omega) h.book rfl, hk.same _ _ (Nat.le_refl _) (by omega) h.off rfl⟩
/-- how the body of a round may be left, where it may turn what lies behind what it was handed -/
def ownPostT {α : Type} (B : Nat) (Kp : World → World → Prop) (I : List α → World → Prop) (Ix : Code → List α → World → Prop) (xs : List α) (W : World) : Exit → Act → World → Prop
  | .normal, _, W' => KeepsTo B (B + 2) W W' ∧ Kp W W' ∧ I xs W'
  | .ret, _, W' => KeepsTo B (B + 2) W W' ∧ Ix .ret xs W'
  | .exit id, _, W' => KeepsTo B (B + 2) W W' ∧ Ix (.exit id) xs W'
  | .goto t, _, W' => KeepsTo B (B + 2) W W' ∧ Ix (.goto t) xs W'
  | .panic _, _, _ => False
  | .outgrown, _, _ => False
/-- an iterator that may range over another one within, and says At of what it hands out: the caller's word abides the turn of whatever block lies behind and holds no cells -/
def SeqA {α : Type} (n : Nat) (P : Program) (gf : Nat) (lb : Array Value) (encs : α → Array Value) (Kp : α → World → World → Prop) (At : α → World → Prop) (S Sp : List α → Prop) (N : Nat) (w0 : World) : Prop :=
  ∀ (l : Nat) (J Jx : List α → World → Prop) (W : World), Below w0.heap.size w0 W → w0.heap.size + 2 ≤ W.heap.size → OwnFrom W.heap.size J → OwnFrom W.heap.size Jx →
    (∀ pre x W1, J pre W1 → At x W1 → pre.length < N → Sp (pre ++ [x]) → YieldAt Fence.wide (n - 1) P l (encs x) W1 fun e W' =>
      (e = .returned (.bool true) ∧ J (pre ++ [x]) W' ∧ Kp x W1 W') ∨ (e = .returned (.bool false) ∧ Jx (pre ++ [x]) W' ∧ Kp x W1 W')) →
    J [] W →
    CallsIn Fence.wide n P gf (#[.func (.yield l) #[] #[]] ++ lb) W fun e W' => (∃ v, e = .returned v) ∧ ((∃ xs, S xs ∧ J xs W') ∨ (∃ pre, Sp pre ∧ Jx pre W'))
theorem wpIn_range_ownAt {α : Type} {P : Program} {n : Nat} {g : Operand} {ps : Array Tmp} {assign body : Code} {Q : Exit → Act → World → Prop} {a : Act} {w : World} (h1 : 1 ≤ n)
    {gf : Nat} {lb : Array Value} (hg : a.eval g = .func (.func gf) #[] lb) (eg : ∀ args w, (callFunc gf args).run P w = .ok (.enter gf args) w)
    {encs : α → Array Value} {Kp : α → World → World → Prop} {At : α → World → Prop} {S Sp : List α → Prop} {N : Nat} {w0 : World} (hseq : SeqA (n - 1) P gf lb encs Kp At S Sp N w0)
    (hKt : ∀ {x : α} {A B C : World}, Kp x A B → Kp x B C → Kp x A C) (hKb : ∀ (x : α) (W : World) (r r' : Loop), W.heap[w.heap.size + 1]? = some (.loop r) → Kp x W (W.putObj (w.heap.size + 1) (.loop r'))) (hb0 : Below w0.heap.size w0 w) (hps : ∀ x, (encs x).size = ps.size)
    (I : List α → World → Prop) (Ix : Code → List α → World → Prop) (hI : OwnFrom w.heap.size I) (hIx : ∀ c, OwnFrom w.heap.size (Ix c)) (h0 : I [] w) (Ax : α → Act → World → Prop) (hAx : ∀ x a', OwnFrom w.heap.size (fun (_ : Unit) W => Ax x a' W))
    (hassign : ∀ (l : Nat) (pre : List α) (x : α) (W : World) (K : Act → World → Prop), I pre W → At x W → (∀ a' W', KeepsFrom w.heap.size W W' → Kp x W W' → I pre W' → Ax x a' W' → K a' W') →
      assign.wpIn (Fence.wide.inRound l) (n - 1 - 1) P (Exit.then K (fun _ _ _ => False)) { tmps := (ps.zip (encs x)).foldl (fun t (p, v) => t.setIfInBounds p v) a.tmps, defers := [] } W)
    (hbody : ∀ (l : Nat) (pre : List α) (x : α) (a' : Act) (W : World), w.heap.size ≤ l → (∃ r, W.heap[l]? = some (.loop r)) → I pre W → Ax x a' W → pre.length < N → Sp (pre ++ [x]) → body.wpIn (Fence.wide.inRound l) (n - 1 - 1) P (fun e a3 W3 => ownPostT w.heap.size (Kp x) I Ix (pre ++ [x]) W e a3 W3 ∧ Kp x W W3) a' W)
    (hdone : ∀ (D : Nat) (xs : List α) (W : World), w.heap.size ≤ D → S xs → I xs W → W.heap[D]? = some (.deferred (some [])) → Q .normal { a with defers := { target := .collected D, args := #[] } :: a.defers } W)
    (hstop : ∀ (D : Nat) (c : Code) (pre : List α) (W : World), w.heap.size ≤ D → Sp pre → Ix c pre W → W.heap[D]? = some (.deferred (some [])) → c.wpIn Fence.wide n P Q { a with defers := { target := .collected D, args := #[] } :: a.defers } W) :
    (Code.rangeFunc g ps assign body).wpIn Fence.wide n P Q a w := by
  refine wpIn_rangeFunc fun fn hfn => ?_
  obtain ⟨R, hR⟩ : ∃ R : LoopState → Option Code → Loop, R = fun st pe => { state := st, pending := pe, fn, tmps := a.tmps, params := ps, assign, body, defers := w.heap.size } := ⟨_, rfl⟩
  obtain ⟨V, hV⟩ : ∃ V, V = (w.alloc (.deferred (some []))).alloc (.loop (R .ready none)) := ⟨_, rfl⟩
  have hVs : V.heap.size = w.heap.size + 2 := by rw [hV]; simp
  have hVb : Below w.heap.size w V := by rw [hV]; exact (below1 w _).trans ((below1 (w.alloc _) _).mono (by simp))
  have hBk : BkO w.heap.size (R .ready none) V := by
    subst hV
    refine ⟨?_, ?_⟩
    · have := World.alloc_heap_new (w.alloc (.deferred (some []))) (.loop (R .ready none))
      rwa [World.size_alloc] at this
    · exact (Below.heap_alloc _ _ _ (by simp)).trans (World.alloc_heap_new w _)
  have hI0 : I [] V := by rw [hV]; exact hI.alloc _ (hI.alloc _ h0)
  refine ⟨w.heap.size + 1, [{ target := .collected w.heap.size, args := #[] }], V, { target := .fn (.func gf) lb, args := #[.func (.yield (w.heap.size + 1)) #[] #[]] }, V, gf, #[.func (.yield (w.heap.size + 1)) #[] #[]] ++ lb, V, ?enter, ?res, fun _ _ => trivial, ?inv, fun _ => h1, ?call⟩
  case enter => rw [hV, hR]; exact run_enterLoop_outer _ _ _ _ _
  case res =>
    simp only [resolve, hg]
    simp [go_sem, Deferred.ofValue]
  case inv => simp [invoke, go_sem, eg]
  case call =>
    have hround : ∀ pre x W, (I pre W ∧ BkO w.heap.size (R .ready none) W) → At x W → pre.length < N → Sp (pre ++ [x]) → YieldAt Fence.wide (n - 1 - 1) P (w.heap.size + 1) (encs x) W fun e W' =>
        (e = .returned (.bool true) ∧ (I (pre ++ [x]) W' ∧ BkO w.heap.size (R .ready none) W') ∧ Kp x W W') ∨ (e = .returned (.bool false) ∧ (∃ c, Ix c (pre ++ [x]) W' ∧ BkO w.heap.size (R .done (some c)) W') ∧ Kp x W W') := by
      rintro pre x W ⟨hi, hb⟩ hat hN hSp
      have hy := run_yield (P := P) (args := encs x) hb.book (by rw [hR]; exact hps x)
      rw [hR] at hy
      refine ⟨fn, _, assign, body, hy, roundIn_of_wpIn hfn (hassign _ pre x W _ hi hat ?_)⟩
      intro a' Wa k1 kp1 hi1 hax
      have hb1 := hb.kept k1
      obtain ⟨rb, hrb⟩ : ∃ rb : Loop, rb = { R .ready none with state := .busy } := ⟨_, rfl⟩
      have hb2 := hb1.put rb
      refine ⟨Wa.putObj (w.heap.size + 1) (.loop rb), by rw [hrb]; exact run_beginRound hb1.book (by rw [hR]), ?_⟩
      refine wpIn_mono (hbody _ pre x a' _ (Nat.le_succ _) ⟨_, hb2.book⟩ (hb1.own hI hi1 rb) (hb1.own (hAx x a') (x := ()) hax rb) hN hSp) ?_
      have kp2 := hKt kp1 (hKb x Wa _ rb hb1.book)
      rintro e a3 W3 ⟨hp, kp3⟩
      have fin : ∀ (j : Option Code), BkO w.heap.size rb W3 → (Instr.endRound (w.heap.size + 1) j).run P W3 = .ok (.bool j.isNone) (W3.putObj (w.heap.size + 1) (.loop (R (if j.isNone then .ready else .done) j))) := fun j hb3 => by
        have := run_endRound (P := P) j hb3.book
        rw [hrb, hR] at this
        rw [hR]; exact this
      cases e with
      | normal =>
        obtain ⟨k3, _, hi3⟩ := hp
        have hb3 := hb2.keptTo k3
        exact ⟨_, _, fin none hb3, .inl ⟨rfl, ⟨hb3.own hI hi3 _, hb3.put _⟩, hKt (hKt kp2 kp3) (hKb x _ _ _ hb3.book)⟩⟩
      | ret =>
        obtain ⟨k3, hi3⟩ := hp
        have hb3 := hb2.keptTo k3
        exact ⟨_, _, fin (some (.ret)) hb3, .inr ⟨rfl, ⟨.ret, hb3.own (hIx _) hi3 _, hb3.put _⟩, hKt (hKt kp2 kp3) (hKb x _ _ _ hb3.book)⟩⟩
      | exit id =>
        obtain ⟨k3, hi3⟩ := hp
        have hb3 := hb2.keptTo k3
        exact ⟨_, _, fin (some (.exit id)) hb3, .inr ⟨rfl, ⟨.exit id, hb3.own (hIx _) hi3 _, hb3.put _⟩, hKt (hKt kp2 kp3) (hKb x _ _ _ hb3.book)⟩⟩
      | goto t =>
        obtain ⟨k3, hi3⟩ := hp
        have hb3 := hb2.keptTo k3
        exact ⟨_, _, fin (some (.goto t)) hb3, .inr ⟨rfl, ⟨.goto t, hb3.own (hIx _) hi3 _, hb3.put _⟩, hKt (hKt kp2 kp3) (hKb x _ _ _ hb3.book)⟩⟩
      | panic ch => exact hp.elim
      | outgrown => exact hp.elim
    have gK : ∀ (W W' : World) (row : Option Nat), (∀ r, row = some r → V.heap.size ≤ r ∧ ∃ o : Obj, W.heap[r]? = some o ∧ o.isCells = false) → ∀ r, row = some r → w.heap.size ≤ r ∧ ∃ o : Obj, W.heap[r]? = some o ∧ o.isCells = false := fun W W' row hr r e => ⟨by have := (hr r e).1; omega, (hr r e).2⟩
    refine (hseq _ (fun pre W => I pre W ∧ BkO w.heap.size (R .ready none) W) (fun pre W => ∃ c, Ix c pre W ∧ BkO w.heap.size (R .done (some c)) W) V (hb0.trans (hVb.mono hb0.size)) (by have := hb0.size; omega)
      (fun xs A A' row h hgr hr => ⟨hI xs A A' row h.1 hgr (gK A A' row hr), h.2.grown (K := V.heap.size) (by omega) hgr (fun q e => (hr q e).1)⟩)
      (fun xs A A' row h hgr hr => let ⟨c, h1, h2⟩ := h; ⟨c, hIx c xs A A' row h1 hgr (gK A A' row hr), h2.grown (K := V.heap.size) (by omega) hgr (fun q e => (hr q e).1)⟩)
      hround ⟨hI0, hBk⟩).mono ?_
    rintro e W2 ⟨⟨v, rfl⟩, ⟨xs, hS, hi, hb⟩ | ⟨pre, hSp, c, hi, hb⟩⟩
    · have he := run_endLoop (P := P) hb.book (by rw [hR]; simp)
      rw [hR] at he
      exact ⟨none, _, he, hdone _ xs _ (Nat.le_refl _) hS (hb.own hI hi _) (hb.put _).off⟩
    · have he := run_endLoop (P := P) hb.book (by rw [hR]; simp)
      rw [hR] at he
      exact ⟨some c, _, he, hstop _ c pre _ (Nat.le_refl _) hSp (hb.own (hIx c) hi _) (hb.put _).off⟩
end Go.Proofs.Ytaflpeajapdkdaa
