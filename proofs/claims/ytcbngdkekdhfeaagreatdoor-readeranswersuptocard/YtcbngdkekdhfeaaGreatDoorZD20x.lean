import Derived.Test.YtcbngdkekdhfeaaGreatDoorZD20w
namespace Go.Proofs.YtcbngdkekdhfeaaGreatDoor
open Go.RowKit Go.Shelf
set_option linter.unusedVariables false
set_option linter.unusedSimpArgs false

theorem wpIn_range_anyX {α : Type} {P : Program} {n : Nat} {g : Operand} {ps : Array Tmp} {assign body : Code} {Q : Exit → Act → World → Prop} {a : Act} {w : World} (h1 : 1 ≤ n)
    {gf : Nat} {s : Value} (hg : a.eval g = .func (.func gf) #[] #[s]) (eg : ∀ args w, (callFunc gf args).run P w = .ok (.enter gf args) w)
    {encs : α → Array Value} (hps : ∀ x, (encs x).size = ps.size) {Kp : World → World → Prop} {S Sp : List α → Prop} {Vx : α → World → Prop} {N : Nat}
    (hseq : ∀ (J Jx : List α → World → Prop) (W : World), Below w.heap.size w W → w.heap.size + 2 ≤ W.heap.size → LowOf W.heap.size J → LowOf W.heap.size Jx →
      (∀ pre x W1, J pre W1 → Vx x W1 → pre.length < N → Sp (pre ++ [x]) → YieldAt Fence.wide (n - 1 - 1) P (w.heap.size + 1) (encs x) W1 fun e W' => (e = .returned (.bool true) ∧ J (pre ++ [x]) W' ∧ Kp W1 W') ∨ (e = .returned (.bool false) ∧ Jx (pre ++ [x]) W' ∧ Kp W1 W')) →
      J [] W → CallsIn Fence.wide (n - 1) P gf #[.func (.yield (w.heap.size + 1)) #[] #[], s] W fun e W' => (∃ v, e = .returned v) ∧ ((∃ xs, S xs ∧ J xs W') ∨ (∃ pre, Sp pre ∧ Jx pre W')))
    (hKt : ∀ {A B C : World}, Kp A B → Kp B C → Kp A C) (hKp : ∀ (W : World) (r r' : Loop), Bks w.heap.size r W → Kp W (W.putObj (w.heap.size + 1) (.loop r')))
    (I : List α → World → Prop) (Ix : Code → List α → World → Prop) (hIL : LowOf w.heap.size I) (hIxL : ∀ c, LowOf w.heap.size (Ix c)) (h0 : I [] w) (Ax : α → Act → World → Prop) (hAx : ∀ x a', OwnFrom w.heap.size (fun (_ : Unit) W => Ax x a' W))
    (hassign : ∀ (pre : List α) (x : α) (W : World) (K : Act → World → Prop), I pre W → Vx x W → (∀ a' W', KeepsFrom w.heap.size W W' → Kp W W' → I pre W' → Ax x a' W' → K a' W') →
      assign.wpIn (Fence.wide.inRound (w.heap.size + 1)) (n - 1 - 1) P (Exit.then K (fun _ _ _ => False)) { tmps := (ps.zip (encs x)).foldl (fun t (p, v) => t.setIfInBounds p v) a.tmps, defers := [] } W)
    (hbody : ∀ (pre : List α) (x : α) (a' : Act) (W : World), I pre W → Ax x a' W → pre.length < N → Sp (pre ++ [x]) → body.wpIn (Fence.wide.inRound (w.heap.size + 1)) (n - 1 - 1) P (fun e a3 W3 => ownPostG w.heap.size Kp I Ix (pre ++ [x]) W e a3 W3 ∧ Kp W W3) a' W)
    (hdone : ∀ (xs : List α) (W : World), S xs → I xs W → W.heap[w.heap.size]? = some (.deferred (some [])) → Q .normal { a with defers := { target := .collected w.heap.size, args := #[] } :: a.defers } W)
    (hstop : ∀ (c : Code) (pre : List α) (W : World), Sp pre → Ix c pre W → W.heap[w.heap.size]? = some (.deferred (some [])) → c.wpIn Fence.wide n P Q { a with defers := { target := .collected w.heap.size, args := #[] } :: a.defers } W) :
    (Code.rangeFunc g ps assign body).wpIn Fence.wide n P Q a w := by
  have hI := hIL.own
  have hIx := fun c => (hIxL c).own
  refine wpIn_rangeFunc fun fn hfn => ?_
  obtain ⟨R, hR⟩ : ∃ R : LoopState → Option Code → Loop, R = fun st pe => { state := st, pending := pe, fn, tmps := a.tmps, params := ps, assign, body, defers := w.heap.size } := ⟨_, rfl⟩
  obtain ⟨V, hV⟩ : ∃ V, V = (w.alloc (.deferred (some []))).alloc (.loop (R .ready none)) := ⟨_, rfl⟩
  have hVs : V.heap.size = w.heap.size + 2 := by rw [hV]; simp
  have hVb : Below w.heap.size w V := by rw [hV]; exact (below1 w _).trans ((below1 (w.alloc _) _).mono (by simp))
  have hBk : Bks w.heap.size (R .ready none) V := by
    subst hV
    refine ⟨?_, ?_⟩
    · have := World.alloc_heap_new (w.alloc (.deferred (some []))) (.loop (R .ready none))
      rwa [World.size_alloc] at this
    · exact (Below.heap_alloc _ _ _ (by simp)).trans (World.alloc_heap_new w _)
  have hI0 : I [] V := by rw [hV]; exact hI.alloc _ (hI.alloc _ h0)
  refine ⟨w.heap.size + 1, [{ target := .collected w.heap.size, args := #[] }], V, { target := .fn (.func gf) #[s], args := #[.func (.yield (w.heap.size + 1)) #[] #[]] }, V, gf, #[.func (.yield (w.heap.size + 1)) #[] #[], s], V, ?enter, ?res, fun _ _ => trivial, ?inv, fun _ => h1, ?call⟩
  case enter => rw [hV, hR]; exact run_enterLoop_outer _ _ _ _ _
  case res =>
    simp only [resolve, hg]
    simp [go_sem, Deferred.ofValue]
  case inv => simp [invoke, go_sem, eg]
  case call =>
    have hround : ∀ pre x W, (I pre W ∧ Bks w.heap.size (R .ready none) W) → Vx x W → pre.length < N → Sp (pre ++ [x]) → YieldAt Fence.wide (n - 1 - 1) P (w.heap.size + 1) (encs x) W fun e W' =>
        (e = .returned (.bool true) ∧ (I (pre ++ [x]) W' ∧ Bks w.heap.size (R .ready none) W') ∧ Kp W W') ∨ (e = .returned (.bool false) ∧ (∃ c, Ix c (pre ++ [x]) W' ∧ Bks w.heap.size (R .done (some c)) W') ∧ Kp W W') := by
      rintro pre x W ⟨hi, hb⟩ hVx hN hSp
      have hy := run_yield (P := P) (args := encs x) hb.book (by rw [hR]; exact hps x)
      rw [hR] at hy
      refine ⟨fn, _, assign, body, hy, roundIn_of_wpIn hfn (hassign pre x W _ hi hVx ?_)⟩
      intro a' Wa k1 kp1 hi1 hax
      have hb1 := hb.kept k1
      obtain ⟨rb, hrb⟩ : ∃ rb : Loop, rb = { R .ready none with state := .busy } := ⟨_, rfl⟩
      have hb2 := hb1.put rb
      refine ⟨Wa.putObj (w.heap.size + 1) (.loop rb), by rw [hrb]; exact run_beginRound hb1.book (by rw [hR]), ?_⟩
      refine wpIn_mono (hbody pre x a' _ (hb1.own hI hi1 rb) (hb1.own (hAx x a') (x := ()) hax rb) hN hSp) ?_
      have kp2 := hKt kp1 (hKp Wa _ rb hb1)
      rintro e a3 W3 ⟨hp, kp3⟩
      have fin : ∀ (j : Option Code), Bks w.heap.size rb W3 → (Instr.endRound (w.heap.size + 1) j).run P W3 = .ok (.bool j.isNone) (W3.putObj (w.heap.size + 1) (.loop (R (if j.isNone then .ready else .done) j))) := fun j hb3 => by
        have := run_endRound (P := P) j hb3.book
        rw [hrb, hR] at this
        rw [hR]; exact this
      cases e with
      | normal =>
        obtain ⟨k3, _, hi3⟩ := hp
        have hb3 := hb2.kept k3
        exact ⟨_, _, fin none hb3, .inl ⟨rfl, ⟨hb3.own hI hi3 _, hb3.put _⟩, hKt (hKt kp2 kp3) (hKp _ _ _ hb3)⟩⟩
      | ret =>
        obtain ⟨k3, hi3⟩ := hp
        have hb3 := hb2.kept k3
        exact ⟨_, _, fin (some (.ret)) hb3, .inr ⟨rfl, ⟨.ret, hb3.own (hIx _) hi3 _, hb3.put _⟩, hKt (hKt kp2 kp3) (hKp _ _ _ hb3)⟩⟩
      | exit id =>
        obtain ⟨k3, hi3⟩ := hp
        have hb3 := hb2.kept k3
        exact ⟨_, _, fin (some (.exit id)) hb3, .inr ⟨rfl, ⟨.exit id, hb3.own (hIx _) hi3 _, hb3.put _⟩, hKt (hKt kp2 kp3) (hKp _ _ _ hb3)⟩⟩
      | goto t =>
        obtain ⟨k3, hi3⟩ := hp
        have hb3 := hb2.kept k3
        exact ⟨_, _, fin (some (.goto t)) hb3, .inr ⟨rfl, ⟨.goto t, hb3.own (hIx _) hi3 _, hb3.put _⟩, hKt (hKt kp2 kp3) (hKp _ _ _ hb3)⟩⟩
      | panic ch => exact hp.elim
      | outgrown => exact hp.elim
    refine (hseq (fun pre W => I pre W ∧ Bks w.heap.size (R .ready none) W) (fun pre W => ∃ c, Ix c pre W ∧ Bks w.heap.size (R .done (some c)) W) V hVb (by omega)
      (fun xs A A' h o1 o2 o3 o4 o5 => ⟨hIL xs A A' h.1 o1 o2 o3 o4 (fun b g1 g2 => o5 b (by omega) g2), h.2.low (by omega) o5⟩)
      (fun xs A A' h o1 o2 o3 o4 o5 => let ⟨c, h1, h2⟩ := h; ⟨c, hIxL c xs A A' h1 o1 o2 o3 o4 (fun b g1 g2 => o5 b (by omega) g2), h2.low (by omega) o5⟩)
      hround ⟨hI0, hBk⟩).mono ?_
    rintro e W2 ⟨⟨v, rfl⟩, ⟨xs, hS, hi, hb⟩ | ⟨pre, hSp, c, hi, hb⟩⟩
    · have he := run_endLoop (P := P) hb.book (by rw [hR]; simp)
      rw [hR] at he
      exact ⟨none, _, he, hdone xs _ hS (hb.own hI hi _) (hb.put _).off⟩
    · have he := run_endLoop (P := P) hb.book (by rw [hR]; simp)
      rw [hR] at he
      exact ⟨some c, _, he, hstop c pre _ hSp (hb.own (hIx c) hi _) (hb.put _).off⟩
end Go.Proofs.YtcbngdkekdhfeaaGreatDoor
