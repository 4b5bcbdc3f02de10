import Derived.Test.YtbaknnpjbokilaaM29
import Derived.Test.YtbaknnpjbokilaaM28
namespace Go.Proofs.Ytbaknnpjbokilaa
open Go.RowKit Go.Shelf Go.Maps
set_option linter.unusedVariables false
set_option linter.unusedSimpArgs false

/-- the two blocks that a loop over a function lays -/
structure BkO (B : Nat) (r : Loop) (W : World) : Prop where
  book : W.heap[B + 1]? = some (.loop r)
  off : W.heap[B]? = some (.deferred (some []))
theorem BkO.kept {B : Nat} {r : Loop} {W W' : World} (h : BkO B r W) (hk : KeepsFrom B W W') : BkO B r W' :=
  ⟨hk.same _ _ (Nat.le_succ _) h.book rfl, hk.same _ _ (Nat.le_refl _) h.off rfl⟩
theorem BkO.put {B : Nat} {r : Loop} {W : World} (h : BkO B r W) (r' : Loop) : BkO B r' (W.putObj (B + 1) (.loop r')) :=
  ⟨World.putObj_heap_same (Array.getElem?_eq_some_iff.1 h.book).1, (World.putObj_heap_other (by omega)).trans h.off⟩
theorem BkO.own {β : Type} {B : Nat} {r : Loop} {W : World} (h : BkO B r W) {I : β → World → Prop} (hI : OwnFrom B I) {x : β} (hx : I x W) (r' : Loop) : I x (W.putObj (B + 1) (.loop r')) :=
  hI.putObj _ hx (Nat.le_succ _) h.book rfl
theorem BkO.grown {B K : Nat} {r : Loop} {W W' : World} {row : Option Nat} (h : BkO B r W) (hK : B + 2 ≤ K) (hg : W.grownBy W' row) (hr : ∀ q, row = some q → K ≤ q) : BkO B r W' :=
  ⟨(hg.block _ (Array.getElem?_eq_some_iff.1 h.book).1 (fun e => by have := hr _ e.symm; omega)).trans h.book, (hg.block _ (Array.getElem?_eq_some_iff.1 h.off).1 (fun e => by have := hr _ e.symm; omega)).trans h.off⟩
/-- an iterator that may range over another one within: the caller's word abides the turn of whatever block lies behind and holds no cells -/
def SeqO {α : Type} (n : Nat) (P : Program) (gf : Nat) (lb : Array Value) (encs : α → Array Value) (Kp : World → World → Prop) (S Sp : List α → Prop) (N : Nat) (w0 : World) : Prop :=
  ∀ (l : Nat) (J Jx : List α → World → Prop) (W : World), Below w0.heap.size w0 W → w0.heap.size + 2 ≤ W.heap.size → OwnFrom W.heap.size J → OwnFrom W.heap.size Jx →
    (∀ pre x W1, J pre W1 → pre.length < N → Sp (pre ++ [x]) → YieldAt Fence.wide (n - 1) P l (encs x) W1 fun e W' =>
      (e = .returned (.bool true) ∧ J (pre ++ [x]) W' ∧ Kp W1 W') ∨ (e = .returned (.bool false) ∧ Jx (pre ++ [x]) W' ∧ Kp W1 W')) →
    J [] W →
    CallsIn Fence.wide n P gf (#[.func (.yield l) #[] #[]] ++ lb) W fun e W' => (∃ v, e = .returned v) ∧ ((∃ xs, S xs ∧ J xs W') ∨ (∃ pre, Sp pre ∧ Jx pre W'))
theorem wpIn_range_ownO {α : Type} {P : Program} {n : Nat} {g : Operand} {ps : Array Tmp} {assign body : Code} {Q : Exit → Act → World → Prop} {a : Act} {w : World} (h1 : 1 ≤ n)
    {gf : Nat} {lb : Array Value} (hg : a.eval g = .func (.func gf) #[] lb) (eg : ∀ args w, (callFunc gf args).run P w = .ok (.enter gf args) w)
    {encs : α → Array Value} {Kp : World → World → Prop} {S Sp : List α → Prop} {N : Nat} {w0 : World} (hseq : SeqO (n - 1) P gf lb encs Kp S Sp N w0)
    (hKt : ∀ {A B C : World}, Kp A B → Kp B C → Kp A C) (hKb : ∀ (W : World) (r r' : Loop), W.heap[w.heap.size + 1]? = some (.loop r) → Kp W (W.putObj (w.heap.size + 1) (.loop r'))) (hb0 : Below w0.heap.size w0 w) (hps : ∀ x, (encs x).size = ps.size)
    (I : List α → World → Prop) (Ix : Code → List α → World → Prop) (hI : OwnFrom w.heap.size I) (hIx : ∀ c, OwnFrom w.heap.size (Ix c)) (h0 : I [] w) (Ax : α → Act → World → Prop) (hAx : ∀ x a', OwnFrom w.heap.size (fun (_ : Unit) W => Ax x a' W))
    (hassign : ∀ (l : Nat) (pre : List α) (x : α) (W : World) (K : Act → World → Prop), I pre W → (∀ a' W', KeepsFrom w.heap.size W W' → Kp W W' → I pre W' → Ax x a' W' → K a' W') →
      assign.wpIn (Fence.wide.inRound l) (n - 1 - 1) P (Exit.then K (fun _ _ _ => False)) { tmps := (ps.zip (encs x)).foldl (fun t (p, v) => t.setIfInBounds p v) a.tmps, defers := [] } W)
    (hbody : ∀ (l : Nat) (pre : List α) (x : α) (a' : Act) (W : World), w.heap.size ≤ l → (∃ r, W.heap[l]? = some (.loop r)) → I pre W → Ax x a' W → pre.length < N → Sp (pre ++ [x]) → body.wpIn (Fence.wide.inRound l) (n - 1 - 1) P (fun e a3 W3 => ownPostG w.heap.size Kp I Ix (pre ++ [x]) W e a3 W3 ∧ Kp W W3) a' W)
    (hdone : ∀ (D : Nat) (xs : List α) (W : World), w.heap.size ≤ D → S xs → I xs W → W.heap[D]? = some (.deferred (some [])) → Q .normal { a with defers := { target := .collected D, args := #[] } :: a.defers } W)
    (hstop : ∀ (D : Nat) (c : Code) (pre : List α) (W : World), w.heap.size ≤ D → Sp pre → Ix c pre W → W.heap[D]? = some (.deferred (some [])) → c.wpIn Fence.wide n P Q { a with defers := { target := .collected D, args := #[] } :: a.defers } W) :
    (Code.rangeFunc g ps assign body).wpIn Fence.wide n P Q a w := by
  refine wpIn_rangeFunc fun fn hfn => ?_
  obtain ⟨R, hR⟩ : ∃ R : LoopState → Option Code → Loop, R = fun st pe => { state := st, pending := pe, fn, tmps := a.tmps, params := ps, assign, body, defers := w.heap.size } := ⟨_, rfl⟩
  obtain ⟨V, hV⟩ : ∃ V, V = (w.alloc (.deferred (some []))).alloc (.loop (R .ready none)) := ⟨_, rfl⟩
  have hVs : V.heap.size = w.heap.size + 2 := by rw [hV]; simp
  have hVb : Below w.heap.size w V := by rw [hV]; exact (below1 w _).trans ((below1 (w.alloc _) _).mono (by simp))
  have hBk : BkO w.heap.size (R .ready none) V := by
    subst hV
    refine ⟨?_, ?_⟩
    · have := World.alloc_heap_new (w.alloc (.deferred (some []))) (.loop (R .ready none))
      rwa [World.size_alloc] at this
    · exact (Below.heap_alloc _ _ _ (by simp)).trans (World.alloc_heap_new w _)
  have hI0 : I [] V := by rw [hV]; exact hI.alloc _ (hI.alloc _ h0)
  refine ⟨w.heap.size + 1, [{ target := .collected w.heap.size, args := #[] }], V, { target := .fn (.func gf) lb, args := #[.func (.yield (w.heap.size + 1)) #[] #[]] }, V, gf, #[.func (.yield (w.heap.size + 1)) #[] #[]] ++ lb, V, ?enter, ?res, fun _ _ => trivial, ?inv, fun _ => h1, ?call⟩
  case enter => rw [hV, hR]; exact run_enterLoop_outer _ _ _ _ _
  case res =>
    simp only [resolve, hg]
    simp [go_sem, Deferred.ofValue]
  case inv => simp [invoke, go_sem, eg]
  case call =>
    have hround : ∀ pre x W, (I pre W ∧ BkO w.heap.size (R .ready none) W) → pre.length < N → Sp (pre ++ [x]) → YieldAt Fence.wide (n - 1 - 1) P (w.heap.size + 1) (encs x) W fun e W' =>
        (e = .returned (.bool true) ∧ (I (pre ++ [x]) W' ∧ BkO w.heap.size (R .ready none) W') ∧ Kp W W') ∨ (e = .returned (.bool false) ∧ (∃ c, Ix c (pre ++ [x]) W' ∧ BkO w.heap.size (R .done (some c)) W') ∧ Kp W W') := by
      rintro pre x W ⟨hi, hb⟩ hN hSp
      have hy := run_yield (P := P) (args := encs x) hb.book (by rw [hR]; exact hps x)
      rw [hR] at hy
      refine ⟨fn, _, assign, body, hy, roundIn_of_wpIn hfn (hassign _ pre x W _ hi ?_)⟩
      intro a' Wa k1 kp1 hi1 hax
      have hb1 := hb.kept k1
      obtain ⟨rb, hrb⟩ : ∃ rb : Loop, rb = { R .ready none with state := .busy } := ⟨_, rfl⟩
      have hb2 := hb1.put rb
      refine ⟨Wa.putObj (w.heap.size + 1) (.loop rb), by rw [hrb]; exact run_beginRound hb1.book (by rw [hR]), ?_⟩
      refine wpIn_mono (hbody _ pre x a' _ (Nat.le_succ _) ⟨_, hb2.book⟩ (hb1.own hI hi1 rb) (hb1.own (hAx x a') (x := ()) hax rb) hN hSp) ?_
      have kp2 := hKt kp1 (hKb Wa _ rb hb1.book)
      rintro e a3 W3 ⟨hp, kp3⟩
      have fin : ∀ (j : Option Code), BkO w.heap.size rb W3 → (Instr.endRound (w.heap.size + 1) j).run P W3 = .ok (.bool j.isNone) (W3.putObj (w.heap.size + 1) (.loop (R (if j.isNone then .ready else .done) j))) := fun j hb3 => by
        have := run_endRound (P := P) j hb3.book
        rw [hrb, hR] at this
        rw [hR]; exact this
      cases e with
      | normal =>
        obtain ⟨k3, _, hi3⟩ := hp
        have hb3 := hb2.kept k3
        exact ⟨_, _, fin none hb3, .inl ⟨rfl, ⟨hb3.own hI hi3 _, hb3.put _⟩, hKt (hKt kp2 kp3) (hKb _ _ _ hb3.book)⟩⟩
      | ret =>
        obtain ⟨k3, hi3⟩ := hp
        have hb3 := hb2.kept k3
        exact ⟨_, _, fin (some (.ret)) hb3, .inr ⟨rfl, ⟨.ret, hb3.own (hIx _) hi3 _, hb3.put _⟩, hKt (hKt kp2 kp3) (hKb _ _ _ hb3.book)⟩⟩
      | exit id =>
        obtain ⟨k3, hi3⟩ := hp
        have hb3 := hb2.kept k3
        exact ⟨_, _, fin (some (.exit id)) hb3, .inr ⟨rfl, ⟨.exit id, hb3.own (hIx _) hi3 _, hb3.put _⟩, hKt (hKt kp2 kp3) (hKb _ _ _ hb3.book)⟩⟩
      | goto t =>
        obtain ⟨k3, hi3⟩ := hp
        have hb3 := hb2.kept k3
        exact ⟨_, _, fin (some (.goto t)) hb3, .inr ⟨rfl, ⟨.goto t, hb3.own (hIx _) hi3 _, hb3.put _⟩, hKt (hKt kp2 kp3) (hKb _ _ _ hb3.book)⟩⟩
      | panic ch => exact hp.elim
      | outgrown => exact hp.elim
    have gK : ∀ (W W' : World) (row : Option Nat), (∀ r, row = some r → V.heap.size ≤ r ∧ ∃ o : Obj, W.heap[r]? = some o ∧ o.isCells = false) → ∀ r, row = some r → w.heap.size ≤ r ∧ ∃ o : Obj, W.heap[r]? = some o ∧ o.isCells = false := fun W W' row hr r e => ⟨by have := (hr r e).1; omega, (hr r e).2⟩
    refine (hseq _ (fun pre W => I pre W ∧ BkO w.heap.size (R .ready none) W) (fun pre W => ∃ c, Ix c pre W ∧ BkO w.heap.size (R .done (some c)) W) V (hb0.trans (hVb.mono hb0.size)) (by have := hb0.size; omega)
      (fun xs A A' row h hgr hr => ⟨hI xs A A' row h.1 hgr (gK A A' row hr), h.2.grown (K := V.heap.size) (by omega) hgr (fun q e => (hr q e).1)⟩)
      (fun xs A A' row h hgr hr => let ⟨c, h1, h2⟩ := h; ⟨c, hIx c xs A A' row h1 hgr (gK A A' row hr), h2.grown (K := V.heap.size) (by omega) hgr (fun q e => (hr q e).1)⟩)
      hround ⟨hI0, hBk⟩).mono ?_
    rintro e W2 ⟨⟨v, rfl⟩, ⟨xs, hS, hi, hb⟩ | ⟨pre, hSp, c, hi, hb⟩⟩
    · have he := run_endLoop (P := P) hb.book (by rw [hR]; simp)
      rw [hR] at he
      exact ⟨none, _, he, hdone _ xs _ (Nat.le_refl _) hS (hb.own hI hi _) (hb.put _).off⟩
    · have he := run_endLoop (P := P) hb.book (by rw [hR]; simp)
      rw [hR] at he
      exact ⟨some c, _, he, hstop _ c pre _ (Nat.le_refl _) hSp (hb.own (hIx c) hi _) (hb.put _).off⟩
/-- what a round that gathers keeps: nothing that holds no cells and lies from K on is turned -/
def KpX (n₀ B K : Nat) (W W' : World) : Prop := KpG n₀ B W W' ∧ KeepsFrom K W W'
theorem keepsFrom_tr {m : Nat} {A B C : World} (h : KeepsFrom m A B) (k : KeepsFrom m B C) : KeepsFrom m A C :=
  ⟨Nat.le_trans h.size k.size, fun b o hb ho hc => k.same b o hb (h.same b o hb ho hc) hc⟩
theorem keepsFrom_up {m m' : Nat} (hm : m ≤ m') {A B : World} (h : KeepsFrom m A B) : KeepsFrom m' A B := ⟨h.size, fun b o hb ho hc => h.same b o (Nat.le_trans hm hb) ho hc⟩
theorem KpX.trans {n₀ B K : Nat} {X Y Z : World} (h : KpX n₀ B K X Y) (k : KpX n₀ B K Y Z) : KpX n₀ B K X Z := ⟨h.1.trans k.1, keepsFrom_tr h.2 k.2⟩
theorem KpX.put {n₀ B K : Nat} {w : World} (hm : n₀ ≤ w.heap.size) (hB : B < w.heap.size) (hK : w.heap.size + 2 ≤ K) (W : World) (r r' : Loop) (h : W.heap[w.heap.size + 1]? = some (.loop r)) : KpX n₀ B K W (W.putObj (w.heap.size + 1) (.loop r')) :=
  ⟨KpG.put hm hB W _ _ _ (Nat.le_succ _) h rfl rfl, (by simp [World.putObj]), fun b o hb ho _ => (World.putObj_heap_other (by omega)).trans ho⟩
theorem KpX.of_below {n₀ B K : Nat} {W W' : World} (hn : n₀ ≤ W.heap.size) (hB : B < W.heap.size) (hb : Below W.heap.size W W') : KpX n₀ B K W W' := ⟨KpG.of_below hn hB hb, hb.size, fun b o _ ho _ => (hb.block b (Array.getElem?_eq_some_iff.1 ho).1).trans ho⟩
end Go.Proofs.Ytbaknnpjbokilaa
namespace Go.Proofs.Ytbaknnpjbokilaa
open Go.RowKit Go.Maps Go.Sort Go.Shelf
set_option linter.unusedVariables false
set_option linter.unusedSimpArgs false
attribute [local go_sem] Oper.semAt_some
attribute [local go_sem ↓] appOpV_eq

set_option maxRecDepth 100000 in
set_option maxHeartbeats 6400000 in
theorem w_gatheredO (gf : Nat) (lb : Array Value) (M : Nat) (ky : Nat → ByteArray) (c : Nat → Fin 5 → Value) (w : World) (hone : ∀ i, i < M → OneC (c i)) (hM : M ≤ 100000)
    (eg : ∀ args w, (callFunc gf args).run Try.prog w = .ok (.enter gf args) w)
    (hseq : ∀ W, Below w.heap.size w W → (∀ b, ¬ rwAt W (w.heap.size + 1) b) → w.heap.size + 1 < W.heap.size → SeqO 6 Try.prog gf lb (fun x : { i : Nat // i < M } => encK ky c x.1) (KpX w.heap.size (w.heap.size + 1) (w.heap.size + 4)) (fun xs => xs.map (·.1) = List.range M) (fun _ => True) M W) :
    Calls Try.prog 22 #[.func (.func gf) #[] lb] w fun e w' => ∃ io ic ko kc, e = .returned (.agg #[.int .i64 6, .string ⟨#[]⟩, .string ⟨#[]⟩, .slice io M ic, .slice ko M kc]) ∧ Hid (GaR w w' ky c M (.slice io M ic) (.slice ko M kc)) := by
  obtain ⟨i0, hi0, hz0, hz1, hz2⟩ := info_parts Try.infoV
  obtain ⟨j0, hj0, hy0, hy1, hy2⟩ := info_parts Try.infoSt
  have HO := Hid.mk hone
  have HSq := Hid.mk hseq
  clear hone hseq
  refine (callsIn_wide (n := 7)).1 ?_
  refine callsIn_of_wp_marks Try.func22 rfl trivial ?_ rfl
  simp only [Try.ntmps22, List.size_toArray, List.length_cons, List.length_nil, Nat.reduceAdd, Nat.reduceSub, Array.replicate_succ, Array.replicate_zero, List.push_toArray, List.append_toArray, List.nil_append, List.cons_append]
  gi_wp2_with fail
  obtain ⟨W0, hW0⟩ : ∃ W0, ((w.alloc (.cells #[.int .i64 0, .string ⟨#[]⟩, .string ⟨#[]⟩, .slice none 0 0, .slice none 0 0] 25)).alloc (.cells #[.int .i64 6, .string ⟨#[]⟩, .string ⟨#[]⟩, .slice none 0 0, .slice none 0 0] 25)) = W0 := ⟨_, rfl⟩
  have hsz0 : W0.heap.size = w.heap.size + 2 := by rw [← hW0]; simp
  have hb0 : Below w.heap.size w W0 := by rw [← hW0]; exact below2 w _ _
  have hG0 : GaS w (w.heap.size + 1) ky c [] [] (.slice none 0 0) (.slice none 0 0) W0 := by
    refine ⟨hb0, ?_, ?_, World.ownsRow_nil _ _ _ _, World.ownsRow_nil _ _ _ _⟩
    · rw [← hW0, Below.heap_alloc _ _ _ (by simp), heap_alloc_new]
    · rw [← hW0, show w.heap.size + 1 = (w.alloc (.cells #[.int .i64 0, .string ⟨#[]⟩, .string ⟨#[]⟩, .slice none 0 0, .slice none 0 0] 25)).heap.size from by simp, heap_alloc_new]
  have hrw0 : ∀ b, ¬ rwAt W0 (w.heap.size + 1) b := by
    rintro b ⟨v, hv | hv, e⟩
    · rw [cell_of_row _ _ 3 _ _ _ hG0.out] at hv; cases hv; cases e
    · rw [cell_of_row _ _ 4 _ _ _ hG0.out] at hv; cases hv; cases e
  have HI0 : Hid (GaI w ky c ([] : List { i : Nat // i < M }) W0) := ⟨_, _, hG0⟩
  have HS0 := Hid.mk (HSq.out W0 hb0 hrw0 (by omega))
  rw [hW0]
  clear hW0 hG0 hrw0 hb0 HSq
  refine wpIn_range_ownO (by omega) (gf := gf) (lb := lb) rfl eg
    HS0.out (fun h k => h.trans k) (KpX.put (by omega) (by omega) (by omega)) (Below.refl _ _) (fun _ => rfl)
    (GaI w ky c) (fun _ _ _ => False) (GaI.own (by omega)) (fun _ _ _ _ _ hs _ _ => hs) HI0.out
    (fun x a' W => ∃ Bx, Bx ≠ w.heap.size + 1 ∧ IBox W Bx (c x.1) ∧ a' = { tmps := #[.func (.func gf) #[] lb, undef, .pointer (some ⟨w.heap.size, 0, none⟩), .pointer (some ⟨w.heap.size + 1, 0, none⟩), .string (ky x.1), .pointer (some ⟨Bx, 0, none⟩), .agg #[.int .i64 6, .string ⟨#[]⟩, .string ⟨#[]⟩, .slice none 0 0, .slice none 0 0], .func (.func gf) #[] lb, .string (ky x.1), .agg #[c x.1 0, c x.1 1, c x.1 2, c x.1 3, c x.1 4], undef, undef, undef, undef, undef, undef, undef, undef, undef, undef, undef, undef, undef, undef, undef], defers := [] })
    (fun x a' _ X Y row hs hg hr => by
      obtain ⟨Bx, h1, h2, h3⟩ := hs
      exact ⟨Bx, h1, ibox_own _ Bx (c x.1) () X Y row h2 hg hr, h3⟩)
    ?assign ?body ?done ?stop
  case assign =>
    rintro l pre x W KK hI hKK
    obtain ⟨ik, inm, itx, iio, iN, iicap, iko, iK, ikcap, o0, o1, o2, o3, o4⟩ := HO.out x.1 x.2
    have hIb : IBox (W.alloc (.cells #[c x.1 0, c x.1 1, c x.1 2, c x.1 3, c x.1 4] 25)) W.heap.size (c x.1) := ⟨World.alloc_heap_new W _⟩
    obtain ⟨vi, vk, hG⟩ := hI
    have hBl := (Array.getElem?_eq_some_iff.1 hG.out).1
    have hI2 : GaI w ky c pre (W.alloc (.cells #[c x.1 0, c x.1 1, c x.1 2, c x.1 3, c x.1 4] 25)) := (GaI.own (C := w.heap.size) (Nat.le_refl _)) pre W _ none ⟨vi, vk, hG⟩ ⟨rfl, rfl, rfl, by simp, fun b hb _ => Below.heap_alloc _ _ b hb⟩ (fun r e => by cases e)
    unfold encK
    dsimp only
    have FIN := hKK { tmps := #[.func (.func gf) #[] lb, undef, .pointer (some ⟨w.heap.size, 0, none⟩), .pointer (some ⟨w.heap.size + 1, 0, none⟩), .string (ky x.1), .pointer (some ⟨W.heap.size, 0, none⟩), .agg #[.int .i64 6, .string ⟨#[]⟩, .string ⟨#[]⟩, .slice none 0 0, .slice none 0 0], .func (.func gf) #[] lb, .string (ky x.1), .agg #[c x.1 0, c x.1 1, c x.1 2, c x.1 3, c x.1 4], undef, undef, undef, undef, undef, undef, undef, undef, undef, undef, undef, undef, undef, undef, undef], defers := [] } _ ((KeepsOthers.alloc _ _).from _) (KpX.of_below hG.below.size hBl (below1 W _)) hI2 ⟨W.heap.size, by omega, hIb, rfl⟩
    rw [o0, o1, o2, o3, o4] at FIN ⊢
    clear hKK hIb hI2 hG
    gi_wp2_with fail
    exact FIN
  case body =>
    rintro l pre x a' W hl ⟨r, hr⟩ ⟨vi, vk, hG⟩ ⟨Bx, hBx, bX, rfl⟩ hlt _
    obtain ⟨c0, c1, c2, c3, c4⟩ := bX.cell
    obtain ⟨ik, inm, itx, iio, iN, iicap, iko, iK, ikcap, o0, o1, o2, o3, o4⟩ := HO.out x.1 x.2
    obtain ⟨ko0, kc0, hvk⟩ := own_shapeV hG.keys
    obtain ⟨io0, ic0, hvi⟩ := own_shapeV hG.items
    rw [o0] at c0; rw [o1] at c1; rw [o2] at c2; rw [o3] at c3; rw [o4] at c4
    have hpl : (pre.map (·.1)).length < M := by rw [List.length_map]; exact hlt
    have hbW := hG.below.size
    have hBl := (Array.getElem?_eq_some_iff.1 hG.out).1
    obtain ⟨L, hL⟩ : ∃ L, L = pre.map (·.1) := ⟨_, rfl⟩
    have HL : Hid ((pre ++ [x]).map (·.1) = L ++ [x.1]) := by show _ = _; rw [List.map_append, hL]; rfl
    rw [← hL] at hG hpl hvk hvi
    have HG := Hid.mk hG
    have HXX : Hid (W.heap[Bx]? = some (.cells #[.int .i64 ik, .string inm, .string itx, .slice iio iN iicap, .slice iko iK ikcap] 25 (0, 0))) := by
      have := bX.row
      rw [o0, o1, o2, o3, o4] at this
      exact this
    subst hvk hvi
    have k4 := cell_of_row _ _ 4 _ _ _ hG.out
    have hGk := hG.keys
    have OC := Hid.mk (And.intro o0 (And.intro o1 (And.intro o2 (And.intro o3 o4))))
    generalize hLn : L.length = n at *
    have HLn := Hid.mk hLn
    clear hG hL hLn hr bX o0 o1 o2 o3 o4 c0 c1 c2 c3 c4
    gi_wp2_with (gi_at_builtin; refine wpListIn_append_own_at _ (by rfl) _ _ 23 (by rfl) (w.heap.size + 2) 9 j0 (.string ⟨#[]⟩) 1 16 Try.underlying23 hj0 hy0 hy1 hy2 rfl (by decide) _ _ _ (by rfl) (hGk.alloc _) ⟨W.heap.size, 0, none⟩ 1 1 [.string (ky x.1)] (by rfl) (by rfl) (cell_one_new W _ _) (by simp [Value.oneCell']) (by unfold maxLen; omega) (by omega) (by simp; omega) ?_)
    intro vk' w4 hown4 hgrow4 hnil4 hat4
    obtain ⟨gk, ck, hvk'⟩ := own_succV hown4
    subst hvk'
    obtain ⟨hG5, hF5, ho4⟩ := GaS.keysUp (x := x.1) rfl HG.out hgrow4 (by rw [HLn.out]; exact hown4) (by simpa using hat4)
    obtain ⟨W5, hW5⟩ : ∃ W5, w4.setCell ⟨w.heap.size + 1, 4, none⟩ (.slice (some ⟨gk, 0, none⟩) (n + 1) ck) = W5 := ⟨_, rfl⟩
    have b4 := cell_of_row _ _ 4 _ _ _ ho4
    have f4 := frozen_row (j := 4) ho4
    have HW5 := Hid.mk hW5
    rw [hW5] at hG5 hF5
    have HG5 := Hid.mk hG5
    have HF5 := Hid.mk hF5
    have hxb : W5.heap[Bx]? = some (.cells #[.int .i64 ik, .string inm, .string itx, .slice iio iN iicap, .slice iko iK ikcap] 25 (0, 0)) := by
      refine (hF5.block Bx (Array.getElem?_eq_some_iff.1 HXX.out).1 ?_).trans HXX.out
      rintro (e | e)
      · exact hBx e
      · obtain ⟨cur, h1, _⟩ := own_isCells hGk e
        rw [HXX.out] at h1; simp at h1
    have hxl := (Array.getElem?_eq_some_iff.1 hxb).1
    have x0 := cell_of_row _ _ 0 _ _ _ hxb
    have x1 := cell_of_row _ _ 1 _ _ _ hxb
    have x2 := cell_of_row _ _ 2 _ _ _ hxb
    have x3 := cell_of_row _ _ 3 _ _ _ hxb
    have x4 := cell_of_row _ _ 4 _ _ _ hxb
    have m3 := cell_of_row _ _ 3 _ _ _ hG5.out
    have hB5 := (Array.getElem?_eq_some_iff.1 hG5.out).1
    have xa : ∀ j v o, W5.cell? ⟨Bx, j, none⟩ = some v → (W5.alloc o).cell? ⟨Bx, j, none⟩ = some v := fun j v o e => ((below1 W5 o).cell (p := ⟨_, _, _⟩) hxl).trans e
    have y0 := fun o => xa 0 _ o x0
    have y1 := fun o => xa 1 _ o x1
    have y2 := fun o => xa 2 _ o x2
    have y3 := fun o => xa 3 _ o x3
    have y4 := fun o => xa 4 _ o x4
    have m3a : ∀ o, (W5.alloc o).cell? ⟨w.heap.size + 1, 3, none⟩ = some (.slice io0 n ic0) := fun o => ((below1 W5 o).cell (p := ⟨_, _, _⟩) hB5).trans m3
    have hb5 := hG5.below.size
    have hit := hG5.items
    rw [HLn.out] at hit
    obtain ⟨v', w6, hrun, hown6, hgrow6, hnil6, hat6⟩ := run_append_own_at (P := Try.prog) (W5.drew.alloc (.cells #[.int .i64 0, .string ⟨#[]⟩, .string ⟨#[]⟩, .slice none 0 0, .slice none 0 0] 25)) (w.heap.size + 2) 22 22 25 i0 (.agg #[.int .i64 0, .string ⟨#[]⟩, .string ⟨#[]⟩, .slice none 0 0, .slice none 0 0]) 5 88 Try.underlying22 hi0 hz0 hz1 hz2 rfl (by decide) (.slice io0 n ic0) n (flL c L) (World.ownsRow.alloc (w := W5.drew) hit _) ⟨W5.heap.size, 0, none⟩ 1 1 [.int .i64 0, .string ⟨#[]⟩, .string ⟨#[]⟩, .slice none 0 0, .slice none 0 0] rfl (new5 (heap_alloc_new W5.drew _)) (by intro u hu; simp at hu; rcases hu with rfl | rfl | rfl | rfl | rfl <;> rfl) (by unfold maxLen; omega) (by omega) (by show w.heap.size + 2 ≤ (W5.drew.alloc _).heap.size; rw [World.size_alloc]; show w.heap.size + 2 ≤ W5.heap.size + 1; omega)
    obtain ⟨g', cap', hv'⟩ := own_succV hown6
    subst hv'
    have hat6' : (Value.slice io0 n ic0).ownBlock = some g' ∨ W5.heap.size + 1 = g' := by
      rcases hat6 with e | e
      · exact .inl e.symm
      · right
        have e2 : some g' = some ((W5.drew.alloc (.cells #[.int .i64 0, .string ⟨#[]⟩, .string ⟨#[]⟩, .slice none 0 0, .slice none 0 0] 25)).heap.size) := e
        have e3 := Option.some.inj e2
        rw [World.size_alloc] at e3
        exact e3.symm
    obtain ⟨W8, hW8⟩ : ∃ W8, (((((w6.setCell ⟨g', n * 5, none⟩ (c x.1 0)).setCell ⟨g', n * 5 + 1, none⟩ (c x.1 1)).setCell ⟨g', n * 5 + 2, none⟩ (c x.1 2)).setCell ⟨g', n * 5 + 3, none⟩ (c x.1 3)).setCell ⟨g', n * 5 + 4, none⟩ (c x.1 4)).setCell ⟨w.heap.size + 1, 3, none⟩ (.slice (some ⟨g', 0, none⟩) (n + 1) cap') = W8 := ⟨_, rfl⟩
    obtain ⟨hG8, hF8, ho6⟩ := GaS.itemsUp (W8 := W8) (o := .cells #[.int .i64 0, .string ⟨#[]⟩, .string ⟨#[]⟩, .slice none 0 0, .slice none 0 0] 25) (g := g') (cap := cap') rfl hG5 ⟨hgrow6.os, hgrow6.tape, hgrow6.output, hgrow6.size, hgrow6.block⟩ (by rw [HLn.out]; exact hown6) hat6' (by rw [HLn.out]; exact hW8.symm)
    have FIN : Hid (KeepsFrom W0.heap.size W W8 ∧ KpX w.heap.size (w.heap.size + 1) (w.heap.size + 4) W W8 ∧ GaI w ky c (pre ++ [x]) W8) := by
      have hfar : Far (fun b => b = w.heap.size + 1 ∨ (Value.slice io0 n ic0).ownBlock = some b ∨ (Value.slice ko0 n kc0).ownBlock = some b ∨ W.heap.size ≤ b) W W8 := by
        refine (hF5.mono (fun b hb => ?_)).trans (hF8.mono (fun b hb => ?_))
        · rcases hb with h | h
          · exact .inl h
          · exact .inr (.inr (.inl h))
        · rcases hb with h | h | h
          · exact .inl h
          · exact .inr (.inl h)
          · exact .inr (.inr (.inr (Nat.le_trans hF5.size h)))
      obtain ⟨hK, hKF⟩ := kpG_far (X := fun b => b = w.heap.size + 1 ∨ (Value.slice io0 n ic0).ownBlock = some b ∨ (Value.slice ko0 n kc0).ownBlock = some b ∨ W.heap.size ≤ b) (by omega) HG.out hG8 hfar (fun b hb hx => by
          rcases hx with h | h | h | h
          · exact .inl h
          · exact .inr (.inl h)
          · exact .inr (.inr h)
          · omega) (fun g e => by
          have e2 : g = g' := (Option.some.inj e).symm
          subst e2
          rcases hat6' with h | h
          · exact .inl h
          · right; have := hF5.size; omega) (fun g e => by
          rcases hat4 with h | h
          · exact .inl (h.symm.trans e)
          · right
            have e2 := e.symm.trans h
            have e3 := Option.some.inj e2
            (try rw [World.size_alloc] at e3)
            omega)
      exact ⟨hKF _, ⟨hK, hKF _⟩, _, _, by rw [HL.out]; exact hG8⟩
    have z0 : w6.cell? ⟨g', n * 5, none⟩ = some (.int .i64 0) := by
      rw [own_cellAt hown6 (by omega), List.getElem?_append_right (by rw [hit.1]; omega), hit.1]; simp
    have z1 : w6.cell? ⟨g', n * 5 + 1, none⟩ = some (.string ⟨#[]⟩) := by
      rw [own_cellAt hown6 (by omega), List.getElem?_append_right (by rw [hit.1]; omega), hit.1]; simp
    have z2 : w6.cell? ⟨g', n * 5 + 2, none⟩ = some (.string ⟨#[]⟩) := by
      rw [own_cellAt hown6 (by omega), List.getElem?_append_right (by rw [hit.1]; omega), hit.1]; simp
    have z3 : w6.cell? ⟨g', n * 5 + 3, none⟩ = some (.slice none 0 0) := by
      rw [own_cellAt hown6 (by omega), List.getElem?_append_right (by rw [hit.1]; omega), hit.1]; simp
    have z4 : w6.cell? ⟨g', n * 5 + 4, none⟩ = some (.slice none 0 0) := by
      rw [own_cellAt hown6 (by omega), List.getElem?_append_right (by rw [hit.1]; omega), hit.1]; simp
    have zf : ∀ j, w6.frozen? ⟨g', j, none⟩ = false := fun j => by
      obtain ⟨cur, h1, _⟩ := own_isCells hown6 rfl
      exact frozen_row h1
    have q3 := cell_of_row _ _ 3 _ _ _ ho6
    have qf := frozen_row (j := 3) ho6
    have hgB : g' ≠ w.heap.size + 1 := by
      rcases hat6' with h | h
      · obtain ⟨_, _, h2⟩ := own_isCells hit h; omega
      · omega
    have hrun' : (appOpV #[22, 22] 22 #[.slice io0 n ic0, .slice (some ⟨W5.heap.size, 0, none⟩) 1 1]).run Try.prog (W5.alloc (.cells #[.int .i64 0, .string ⟨#[]⟩, .string ⟨#[]⟩, .slice none 0 0, .slice none 0 0] 25)).drew = .ok (.slice (some ⟨g', 0, none⟩) (n + 1) cap') w6 := hrun
    obtain ⟨p0, p1, p2, p3, p4⟩ := OC.out
    rw [p0, p1, p2, p3, p4] at hW8
    have HW8 := Hid.mk hW8
    have hmx : Try.prog.follows .mixedOrders = true := by kernel_rfl
    have hn1 : (n : Int) < (n : Int) + 1 := by omega
    clear hW8 hrun hown6 hgrow6 hnil6 hat6 hat6' hG8 hF8 ho6 hG5 hF5 hown4 hgrow4 hnil4 hat4 ho4 hxb hit hGk p0 p1 p2 p3 p4 xa
    gi_wp2_with fail
    gi_region_with_o fail
    all_goals gi_wp2_with fail
    all_goals first | (rw [HW8.out]; exact ⟨FIN.out, FIN.out.2.1⟩) | (rw [setCell_comm5 _ _ _ (fun e => hgB e.symm), HW8.out]; exact ⟨FIN.out, FIN.out.2.1⟩)
  case done =>
    rintro D zs W hD hz ⟨vi, vk, hG⟩ hK
    obtain ⟨ko0, kc0, hvk⟩ := own_shapeV hG.keys
    obtain ⟨io0, ic0, hvi⟩ := own_shapeV hG.items
    have hzz : zs.map (·.1) = List.range M := hz
    rw [hzz] at hG hvk hvi
    rw [List.length_range] at hvk hvi
    subst hvk hvi
    have l0 := cell_of_row _ _ 0 _ _ _ hG.out
    have l1 := cell_of_row _ _ 1 _ _ _ hG.out
    have l2 := cell_of_row _ _ 2 _ _ _ hG.out
    have l3 := cell_of_row _ _ 3 _ _ _ hG.out
    have l4 := cell_of_row _ _ 4 _ _ _ hG.out
    have r0 := cell_of_row _ _ 0 _ _ _ hG.res
    have r1 := cell_of_row _ _ 1 _ _ _ hG.res
    have r2 := cell_of_row _ _ 2 _ _ _ hG.res
    have r3 := cell_of_row _ _ 3 _ _ _ hG.res
    have r4 := cell_of_row _ _ 4 _ _ _ hG.res
    have fr : ∀ j, W.frozen? ⟨w.heap.size, j, none⟩ = false := fun j => frozen_row hG.res
    have HG := Hid.mk hG
    obtain ⟨wz, hwz⟩ : ∃ wz, ((((W.setCell ⟨w.heap.size, 0, none⟩ (.int .i64 6)).setCell ⟨w.heap.size, 1, none⟩ (.string ⟨#[]⟩)).setCell ⟨w.heap.size, 2, none⟩ (.string ⟨#[]⟩)).setCell ⟨w.heap.size, 3, none⟩ (.slice io0 M ic0)).setCell ⟨w.heap.size, 4, none⟩ (.slice ko0 M kc0) = wz := ⟨_, rfl⟩
    obtain ⟨zb, zo, zs', zbl⟩ := set5 W (w.heap.size) _ _ _ _ _ _ _ _ _ _ _ hG.res wz hwz.symm
    have z0 := cell_of_row _ _ 0 _ _ _ zb
    have z1 := cell_of_row _ _ 1 _ _ _ zb
    have z2 := cell_of_row _ _ 2 _ _ _ zb
    have z3 := cell_of_row _ _ 3 _ _ _ zb
    have z4 := cell_of_row _ _ 4 _ _ _ zb
    have hDne : D ≠ w.heap.size := by rintro rfl; rw [hG.res] at hK; cases hK
    have hKz : wz.heap[D]? = some (.deferred (some [])) := (zo D hDne).trans hK
    have FIN : Hid (GaR w (wz.putObj D (.deferred none)) ky c M (.slice io0 M ic0) (.slice ko0 M kc0)) := by
      have ot : ∀ b cs t f, W.heap[b]? = some (.cells cs t f) → b ≠ w.heap.size → (wz.putObj D (.deferred none)).heap[b]? = W.heap[b]? := fun b cs t f hb hne => by
        rw [World.putObj_heap_other (by rintro rfl; rw [hb] at hK; cases hK)]
        exact zo b hne
      have mo : ∀ {e size v n xs}, W.ownsRow (w.heap.size + 2) e size v n xs → (wz.putObj D (.deferred none)).ownsRow w.heap.size e size v n xs := fun {e size v n xs} h => by
        have h1 : W.ownsRow w.heap.size e size v n xs := ⟨h.1, h.2.imp id (fun ⟨g, cap, cur, e1, e2, rest⟩ => ⟨g, cap, cur, e1, by omega, rest⟩)⟩
        refine own_blk h1 fun g hg => ?_
        obtain ⟨cur, h2, h3⟩ := own_isCells h hg
        exact ot g _ _ _ h2 (by omega)
      have hk := mo HG.out.keys
      have hi := mo HG.out.items
      rw [List.length_range] at hk hi
      refine ⟨?_, hk, hi⟩
      exact (HG.out.below.trans (zbl _ (Nat.le_refl _))).trans (belowK_b (w := w) (Nat.le_refl _) wz D _ _ (by omega) hKz rfl rfl)
    clear hG zb zo zbl hzz hz
    gi_wp2_with fail
    refine ⟨by simp, .inl ⟨_, _, rfl, run_takeDeferred hKz, ?_⟩⟩
    have zp : ∀ j v, wz.cell? ⟨w.heap.size, j, none⟩ = some v → (wz.putObj D (.deferred none)).cell? ⟨w.heap.size, j, none⟩ = some v := fun j v e => (World.cell?_of_block (a := ⟨w.heap.size, j, none⟩) (World.putObj_heap_other (fun e => hDne e.symm))).trans e
    have q0 := zp 0 _ z0
    have q1 := zp 1 _ z1
    have q2 := zp 2 _ z2
    have q3 := zp 3 _ z3
    have q4 := zp 4 _ z4
    generalize wz.putObj D (.deferred none) = wq at *
    refine ⟨.agg #[.int .i64 6, .string ⟨#[]⟩, .string ⟨#[]⟩, .slice io0 M ic0, .slice ko0 M kc0], by simp [results, Try.results22, go_sem, q0, q1, q2, q3, q4], ?_⟩
    exact ⟨_, _, _, _, rfl, FIN⟩
  case stop =>
    rintro D cc pre W _ _ h _
    exact h.elim
end Go.Proofs.Ytbaknnpjbokilaa
namespace Go.Proofs.Ytbaknnpjbokilaa
open Go.RowKit Go.Maps Go.Sort Go.Shelf
set_option linter.unusedVariables false
set_option linter.unusedSimpArgs false
attribute [local go_sem] Oper.semAt_some

/-- what inside's iterator reads: an object in a box, its rows below -/
structure InS (W : World) (n₀ B A N : Nat) (x0 x1 x2 : Value) (io : Option Addr) (ic : Nat) (ko : Option Addr) (kc : Nat) (ky : Nat → ByteArray) (c : Nat → Fin 5 → Value) : Prop where
  box : W.heap[A]? = some (.cells #[x0, x1, x2, .slice io N ic, .slice ko N kc] 25 (0, 0))
  far : A ≠ B ∧ ¬ rwAt W B A
  keys : ∀ i, i < N → ∃ b off, ko = some ⟨b, off, none⟩ ∧ b < n₀ ∧ W.cell? ⟨b, off + i, none⟩ = some (.string (ky i))
  items : ∀ i, i < N → ∃ b off, io = some ⟨b, off, none⟩ ∧ b < n₀ ∧ W.cell? ⟨b, off + i * 5, none⟩ = some (c i 0) ∧ W.cell? ⟨b, off + i * 5 + 1, none⟩ = some (c i 1) ∧ W.cell? ⟨b, off + i * 5 + 2, none⟩ = some (c i 2) ∧ W.cell? ⟨b, off + i * 5 + 3, none⟩ = some (c i 3) ∧ W.cell? ⟨b, off + i * 5 + 4, none⟩ = some (c i 4)
theorem InS.keep {W W' : World} {n₀ B A N : Nat} {x0 x1 x2 : Value} {io : Option Addr} {ic : Nat} {ko : Option Addr} {kc : Nat} {ky : Nat → ByteArray} {c : Nat → Fin 5 → Value} (h : InS W n₀ B A N x0 x1 x2 io ic ko kc ky c) (hk : KpG n₀ B W W') : InS W' n₀ B A N x0 x1 x2 io ic ko kc ky c := by
  have hb := hk.below
  refine ⟨hk.same A _ h.far.1 h.far.2 h.box rfl, ⟨h.far.1, fun hr => ?_⟩, fun i hi => ?_, fun i hi => ?_⟩
  · rcases hk.rows A hr with h1 | h1
    · exact h.far.2 h1
    · have := (Array.getElem?_eq_some_iff.1 h.box).1; omega
  · obtain ⟨b, off, e, hl, a0⟩ := h.keys i hi
    exact ⟨b, off, e, hl, (hb.cell (p := ⟨_, _, _⟩) hl).trans a0⟩
  · obtain ⟨b, off, e, hl, a0, a1, a2, a3, a4⟩ := h.items i hi
    exact ⟨b, off, e, hl, (hb.cell (p := ⟨_, _, _⟩) hl).trans a0, (hb.cell (p := ⟨_, _, _⟩) hl).trans a1, (hb.cell (p := ⟨_, _, _⟩) hl).trans a2, (hb.cell (p := ⟨_, _, _⟩) hl).trans a3, (hb.cell (p := ⟨_, _, _⟩) hl).trans a4⟩
theorem InS.alloc {W : World} {n₀ B A N : Nat} {x0 x1 x2 : Value} {io : Option Addr} {ic : Nat} {ko : Option Addr} {kc : Nat} {ky : Nat → ByteArray} {c : Nat → Fin 5 → Value} (h : InS W n₀ B A N x0 x1 x2 io ic ko kc ky c) (hn : n₀ ≤ W.heap.size) (hB : B < W.heap.size) (o : Obj) : InS (W.alloc o) n₀ B A N x0 x1 x2 io ic ko kc ky c :=
  h.keep (KpG.of_below hn hB (below1 _ _))

set_option maxRecDepth 100000 in
set_option maxHeartbeats 6400000 in
theorem inside1_inO (n : Nat) (hn : 1 ≤ n) (l n₀ B A N : Nat) (x0 x1 x2 : Value) (io : Option Addr) (ic : Nat) (ko : Option Addr) (kc : Nat) (ky : Nat → ByteArray) (c : Nat → Fin 5 → Value) (hN : N ≤ ic ∧ N ≤ kc) (hN2 : N ≤ 100000) (hone : ∀ i, i < N → OneC (c i))
    (J Jx : List { i : Nat // i < N } → World → Prop) (W : World) (hn0 : n₀ ≤ W.heap.size) (hBl : B < W.heap.size) (hS0 : InS W n₀ B A N x0 x1 x2 io ic ko kc ky c) (hJ : OwnFrom W.heap.size J) (hJx : OwnFrom W.heap.size Jx)
    (hY : ∀ pre (x : { i : Nat // i < N }) W1, J pre W1 → pre.length < N → (pre ++ [x]).map (·.1) = List.range (pre ++ [x]).length → YieldAt Fence.wide (n - 1) Try.prog l (encK ky c x.1) W1 fun e W' =>
      (e = .returned (.bool true) ∧ J (pre ++ [x]) W' ∧ KpG n₀ B W1 W') ∨ (e = .returned (.bool false) ∧ Jx (pre ++ [x]) W' ∧ KpG n₀ B W1 W')) (h0 : J [] W) :
    CallsIn Fence.wide n Try.prog 42 #[.func (.yield l) #[] #[], .pointer (some ⟨A, 0, none⟩)] W fun e W' => (∃ v, e = .returned v) ∧
      ((∃ xs, xs.map (·.1) = List.range N ∧ J xs W') ∨ (∃ pre : List { i : Nat // i < N }, pre.map (·.1) = List.range pre.length ∧ Jx pre W')) := by
  have HJ := Hid.mk hJ
  have HY := Hid.mk hY
  have H0 := Hid.mk h0
  have HO := Hid.mk hone
  have HSt := Hid.mk hS0
  have g3 := cell_of_row _ _ 3 _ _ _ hS0.box
  obtain ⟨hNi, hNk⟩ := hN
  clear hJ hJx hY h0 hone hS0
  refine callsIn_of_wp Try.func42 rfl trivial ?_ rfl
  simp only [Try.ntmps42, List.size_toArray, List.length_cons, List.length_nil, Nat.reduceAdd, Nat.reduceSub, Array.replicate_succ, Array.replicate_zero, List.push_toArray, List.append_toArray, List.nil_append, List.cons_append]
  gi_wp2_with fail
  clear g3
  gi_loopw [9] (fun i wr => ∃ (k : Nat), k ≤ N ∧ i = .int .i64 (k : Int) ∧ n₀ ≤ wr.heap.size ∧ B < wr.heap.size ∧ W.heap.size ≤ wr.heap.size ∧ Hid (InS wr n₀ B A N x0 x1 x2 io ic ko kc ky c ∧ ∃ pre : List { i : Nat // i < N }, pre.map (·.1) = List.range k ∧ J pre wr)) (fun i _ => N - (intOf i).toNat)
  case atStart => exact ⟨0, Nat.zero_le _, rfl, by omega, by omega, Nat.le_refl _, HSt.out, [], rfl, H0.out⟩
  case round =>
    clear HSt H0
    obtain ⟨k, hk, rfl, hn1, hB1, hw1, HQ⟩ := hrel
    by_cases hlt : k < N
    · have hl1 : (k : Int) < (N : Int) := by omega
      have hl0 : (0 : Int) ≤ (k : Int) := by omega
      obtain ⟨b, off, hio, hb, a0, a1, a2, a3, a4⟩ := HQ.out.1.items k hlt
      subst hio
      obtain ⟨ik, inm, itx, iio, iN, iicap, iko, iK, ikcap, o0, o1, o2, o3, o4⟩ := HO.out k hlt
      rw [o0] at a0; rw [o1] at a1; rw [o2] at a2; rw [o3] at a3; rw [o4] at a4
      obtain ⟨kb, koff, hko, hkb, ck0⟩ := HQ.out.1.keys k hlt
      subst hko
      have g3 := cell_of_row _ _ 3 _ _ _ HQ.out.1.box
      have g4' := cell_of_row _ _ 4 _ _ _ HQ.out.1.box
      have hAl := (Array.getElem?_eq_some_iff.1 HQ.out.1.box).1
      have g4 : ∀ o, (wr.alloc o).cell? ⟨A, 4, none⟩ = some (.slice (some ⟨kb, koff, none⟩) N kc) := fun o => ((below1 wr o).cell (p := ⟨_, _, _⟩) hAl).trans g4'
      have ck : ∀ o, (wr.alloc o).cell? ⟨kb, koff + k, none⟩ = some (.string (ky k)) := fun o => ((below1 wr o).cell (p := ⟨kb, koff + k, none⟩) (by show kb < _; omega)).trans ck0
      obtain ⟨pre, hpre, hJp⟩ := HQ.out.2
      have hpl : pre.length = k := by have := congrArg List.length hpre; simpa using this
      have hJ2 : J pre (wr.alloc (.cells #[.int .i64 ik, .string inm, .string itx, .slice iio iN iicap, .slice iko iK ikcap] 25)) := HJ.out _ _ _ none hJp (World.grownBy_alloc wr _ none) (fun r e => by cases e)
      have HPr : Hid ((pre ++ [(⟨k, hlt⟩ : { i : Nat // i < N })]).map (·.1) = List.range (k + 1)) := by show _ = _; rw [List.map_append, hpre, List.range_succ]; rfl
      obtain ⟨fn, tmps, assign, body, hy, hR⟩ := HY.out pre ⟨k, hlt⟩ _ hJ2 (by omega) (by rw [HPr.out, List.length_append, hpl]; rfl)
      unfold encK at hy
      dsimp only at hy
      rw [o0, o1, o2, o3, o4] at hy
      have HRd := Hid.mk hR
      have HIn := Hid.mk (HQ.out.1.alloc hn1 hB1 (.cells #[.int .i64 ik, .string inm, .string itx, .slice iio iN iicap, .slice iko iK ikcap] 25))
      have HPl : Hid ((pre ++ [(⟨k, hlt⟩ : { i : Nat // i < N })]).length = k + 1) := by show _ = _; rw [List.length_append, hpl]; rfl
      generalize ky k = kk at ck hy
      clear hJ2 hJp hpre hpl hR o0 o1 o2 o3 o4 g4' ck0
      gi_wp2_with fail
      refine HRd.out.mono ?_
      rintro e W4 (⟨rfl, hJ4, hk4⟩ | ⟨rfl, hJx4, _⟩)
      · have HN : Hid (InS W4 n₀ B A N x0 x1 x2 (some ⟨b, off, none⟩) ic (some ⟨kb, koff, none⟩) kc ky c ∧ ∃ pre : List { i : Nat // i < N }, pre.map (·.1) = List.range (k + 1) ∧ J pre W4) := ⟨HIn.out.keep hk4, _, HPr.out, hJ4⟩
        have hs4 := hk4.below.size
        rw [World.size_alloc] at hs4
        clear hJ4 hk4 hy HIn HPr HPl
        gi_wp2_with fail
        go_roundw
        case rel => exact ⟨k + 1, hlt, by go_num, by omega, by omega, by omega, HN⟩
        case measure => simp [intOf]; omega
      · have HX := Hid.mk hJx4
        have HPP : Hid (∃ pre : List { i : Nat // i < N }, pre.map (·.1) = List.range pre.length ∧ Jx pre W4) := ⟨_, by rw [HPr.out, HPl.out], HX.out⟩
        clear hJx4 hy HIn HPr HPl HX
        gi_wp2_with fail
        refine bodyPost_ret (results_none rfl _ _ _) rfl ?_
        exact ⟨⟨_, rfl⟩, .inr HPP.out⟩
    · have hl1 : ¬ (k : Int) < (N : Int) := by omega
      have hie : k = N := by omega
      obtain ⟨pre, hpre, hJp⟩ := HQ.out.2
      have HF : Hid (∃ xs : List { i : Nat // i < N }, xs.map (·.1) = List.range N ∧ J xs wr) := ⟨pre, by rw [hpre, hie], hJp⟩
      clear hie hpre hJp
      gi_wp2_with fail
      go_end0
      exact ⟨⟨_, rfl⟩, .inl HF.out⟩
end Go.Proofs.Ytbaknnpjbokilaa
