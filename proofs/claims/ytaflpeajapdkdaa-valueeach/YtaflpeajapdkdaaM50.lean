import Derived.Test.YtaflpeajapdkdaaM38
import Derived.Test.YtaflpeajapdkdaaM43
import Derived.Test.YtaflpeajapdkdaaM48
import Derived.Test.YtaflpeajapdkdaaM49
namespace Go.Proofs.Ytaflpeajapdkdaa
open Go.RowKit Go.Maps Go.Sort Go.Shelf
set_option linter.unusedVariables false
set_option linter.unusedSimpArgs false

theorem KpM.refl (m B : Nat) (W : World) : KpM m B W W := ⟨rfl, rfl, rfl, Nat.le_refl _, fun _ _ _ _ h _ => h⟩
theorem KpM.own {m B : Nat} {w0 : World} {β : Type} {M : Nat} : OwnFrom M (fun (_ : β) W => KpM m B w0 W) := fun _ X Y row hs hg hr =>
  ⟨hg.os.trans hs.os, hg.tape.trans hs.tape, hg.output.trans hs.output, Nat.le_trans hs.size hg.size, fun b o hm hb ho hc => by
    have hX := hs.same b o hm hb ho hc
    refine (hg.block b (Array.getElem?_eq_some_iff.1 hX).1 (fun e => ?_)).trans hX
    obtain ⟨_, o2, h2, h3⟩ := hr b e.symm
    rw [hX] at h2
    cases h2
    rw [hc] at h3
    cases h3⟩
theorem KpM.down {m m' B : Nat} {W W' : World} (h : KpM m B W W') (hm : m' ≤ m) : KpM m' B W W' := ⟨h.os, h.tape, h.output, h.size, fun b o hl hb => h.same b o (Nat.lt_of_lt_of_le hl hm) hb⟩
theorem cells_ownX {C : Nat} {A A' : World} {row : Option Nat} (hg : A.grownBy A' row) (hr : ∀ r, row = some r → C ≤ r ∧ ∃ o : Obj, A.heap[r]? = some o ∧ o.isCells = false) {b : Nat} {cs : Array Value} {t : TypeId} {f : Nat × Nat} (hb : A.heap[b]? = some (.cells cs t f)) : A'.heap[b]? = some (.cells cs t f) := by
  rw [hg.block b (Array.getElem?_eq_some_iff.1 hb).1 (fun e => by
    obtain ⟨_, o, ho, hoc⟩ := hr b e.symm
    rw [hb] at ho; cases ho; cases hoc)]
  exact hb
theorem box_setX {W : World} {B : Nat} {t : TypeId} {y : Value} (v : Value) (h : W.heap[B]? = some (.cells #[y] t (0, 0))) : (W.setCell ⟨B, 0, none⟩ v).heap[B]? = some (.cells #[v] t (0, 0)) := by
  show (W.heap.modify B _)[B]? = _
  rw [Array.getElem?_modify, if_pos rfl, h]; rfl
/-- between two rounds of the law's ranges: n's box tells how many there were -/
structure EI (w0 W0 : World) (m B k : Nat) (W : World) : Prop where
  box : W.heap[B]? = some (.cells #[.int .i64 (k : Int)] 3 (0, 0))
  kp : KpM m B W0 W
  below : Below w0.heap.size w0 W
  oth : ∀ b, b < m → b ≠ B → W.heap[b]? = W0.heap[b]?
theorem below_ownX {w0 : World} {β : Type} {M : Nat} (hM : w0.heap.size ≤ M) : OwnFrom M (fun (_ : β) W => Below w0.heap.size w0 W) := fun _ X Y row h hg hr =>
  ⟨hg.os.trans h.os, hg.tape.trans h.tape, hg.output.trans h.output, Nat.le_trans h.size hg.size, fun b hb => (hg.block b (Nat.lt_of_lt_of_le hb h.size) (fun e => by have := (hr b e.symm).1; omega)).trans (h.block b hb)⟩
theorem EI.own {w0 W0 : World} {m B M N : Nat} (hM : w0.heap.size ≤ M) (hm : m ≤ M) (hms : m ≤ W0.heap.size) : OwnFrom M (fun (pre : List (EX N)) W => EI w0 W0 m B pre.length W) := fun pre X Y row h hg hr =>
  ⟨cells_ownX hg hr h.box, KpM.own (β := Unit) (M := M) () X Y row h.kp hg hr, below_ownX (β := Unit) hM () X Y row h.below hg hr, fun b hb hne => (hg.block b (by have := h.kp.size; omega) (fun e => by have := (hr b e.symm).1; omega)).trans (h.oth b hb hne)⟩
theorem kpE_set {B M N : Nat} {x : EX N} {W W2 : World} {y : Value} (h : Below x.2.2 W W2) (hbox : W.heap[B]? = some (.cells #[y] 3 (0, 0))) (v : Value) : KpE B M x W (W2.setCell ⟨B, 0, none⟩ v) :=
  ⟨⟨h.os, h.tape, h.output, by rw [World.size_setCell]; exact h.size, fun b o hm hb ho _ => (Below.heap_setCell _ _ _ _ (by show b ≠ B; exact hb)).trans ((h.block b hm).trans ho)⟩,
    by rw [World.size_setCell]; exact h.size, fun b o _ hb ho hc => by
      have hne : b ≠ B := fun e => by
        subst e
        rw [hbox] at ho
        cases ho
        cases hc
      exact (Below.heap_setCell _ _ _ _ (by show b ≠ B; exact hne)).trans ((h.block b hb).trans ho)⟩
theorem ei_step {w0 W0 W W2 : World} {m B k D N : Nat} {x : EX N} (h : EI w0 W0 m B k W) (hb : Below x.2.2 W W2) (hm : m ≤ x.2.2) (hB0 : w0.heap.size ≤ B) (hBm : B < m) (hD : D + 2 ≤ x.2.2) (M : Nat) (z : Int) (hz : z = (k : Int) + 1) :
    EI w0 W0 m B (k + 1) (W2.setCell ⟨B, 0, none⟩ (.int .i64 z)) ∧ KpE B M x W (W2.setCell ⟨B, 0, none⟩ (.int .i64 z)) ∧ KeepsTo D (D + 2) W (W2.setCell ⟨B, 0, none⟩ (.int .i64 z)) := by
  have hk : ∀ M, KpE B M x W (W2.setCell ⟨B, 0, none⟩ (.int .i64 z)) := fun M => kpE_set hb h.box _
  have hb2 : W2.heap[B]? = some (.cells #[.int .i64 (k : Int)] 3 (0, 0)) := (hb.block B (by omega)).trans h.box
  refine ⟨⟨?_, h.kp.trans ((hk M).1.down hm), ?_, fun b hb1 hb3 => ?_⟩, hk M, (hk D).2.mono (Nat.le_refl _) hD⟩
  · rw [box_setX _ hb2, hz]; rfl
  · have h1 := h.below.trans (hb.mono (by have := h.below.size; omega))
    exact h1.setCell (p := ⟨B, 0, none⟩) hB0 _
  · exact (Below.heap_setCell _ _ _ _ (by show b ≠ B; exact hb3)).trans ((hb.block b (by omega)).trans (h.oth b hb1 hb3))
theorem run_seqNilE (lb : Array Value) (u : World) : (binOp .eql 27 (.func (.func 14) #[] lb) .nilFunc).run Try.prog u = .ok (.bool false) u := by
  kernel_rfl
/-- the tree of the law's own object -/
def oneT : VT := .mk 6 ⟨#[]⟩ ⟨#[]⟩ [.mk 2 ⟨#[]⟩ ⟨#[]⟩ [] []] [⟨#[107]⟩]
theorem emTX : (⟨#[]⟩ : ByteArray).toList.isEmpty = true := by rw [Lib.toList_data]; rfl
theorem oneT_form : formN 2 oneT = true := by
  have h1 : rK [⟨#[107]⟩] 1 = true := by decide
  have h2 : oK [⟨#[107]⟩] 1 = true := by
    show ((okB [107]) && true) = true
    rw [Bool.and_true]
    exact ok_txt [107] (by intro z hz; simp at hz; subst hz; unfold isR; omega)
  have h3 : formN 1 (.mk 2 ⟨#[]⟩ ⟨#[]⟩ [] []) = true := by
    show bareB ⟨#[]⟩ ⟨#[]⟩ 0 0 = true
    unfold bareB; rw [emTX]; decide
  show formV 6 ⟨#[]⟩ ⟨#[]⟩ 1 1 ([VT.mk 2 ⟨#[]⟩ ⟨#[]⟩ [] []].all (formN 1)) (rK [⟨#[107]⟩] 1 && oK [⟨#[107]⟩] 1) = true
  rw [h1, h2]
  simp only [List.all_cons, List.all_nil, h3]
  show (true && true && true && bareB ⟨#[]⟩ ⟨#[]⟩ 0 0) = true
  unfold bareB; rw [emTX]; decide
theorem oneT_in (u : World) : InH ((u.alloc (.cells #[.string ⟨#[107]⟩] 9)).alloc (.cells #[.int .i64 2, .string ⟨#[]⟩, .string ⟨#[]⟩, .slice none 0 0, .slice none 0 0] 25)) 2 oneT
    (.agg #[.int .i64 6, .string ⟨#[]⟩, .string ⟨#[]⟩, .slice (some ⟨u.heap.size + 1, 0, none⟩) 1 1, .slice (some ⟨u.heap.size, 0, none⟩) 1 1]) := by
  obtain ⟨U1, hU1⟩ : ∃ U1, u.alloc (.cells #[.string ⟨#[107]⟩] 9) = U1 := ⟨_, rfl⟩
  have s1 : U1.heap.size = u.heap.size + 1 := by rw [← hU1]; simp
  have r0 : U1.heap[u.heap.size]? = some (.cells #[.string ⟨#[107]⟩] 9 (0, 0)) := by rw [← hU1]; exact heap_alloc_new u _
  rw [hU1]
  obtain ⟨U2, hU2⟩ : ∃ U2, U1.alloc (.cells #[.int .i64 2, .string ⟨#[]⟩, .string ⟨#[]⟩, .slice none 0 0, .slice none 0 0] 25) = U2 := ⟨_, rfl⟩
  have s2 : U2.heap.size = u.heap.size + 2 := by rw [← hU2]; simp [s1]
  have r1 : U2.heap[u.heap.size + 1]? = some (.cells #[.int .i64 2, .string ⟨#[]⟩, .string ⟨#[]⟩, .slice none 0 0, .slice none 0 0] 25 (0, 0)) := by
    rw [← hU2, ← s1]; exact heap_alloc_new U1 _
  have r2 : U2.heap[u.heap.size]? = some (.cells #[.string ⟨#[107]⟩] 9 (0, 0)) := by rw [← hU2]; exact (Below.heap_alloc _ _ _ (by omega)).trans r0
  rw [hU2]
  refine ⟨_, _, _, _, rfl, by decide, by decide, by decide, by decide, by decide, by decide, fun k hk => ?_, ⟨fun _ => ⟨u.heap.size, 0, rfl, by omega, fun i hi => ?_⟩⟩, fun _ => ⟨u.heap.size + 1, 0, rfl, by omega, fun i hi => ?_⟩⟩
  · have : k = ⟨#[107]⟩ := by simpa [oneT, VT.keys] using hk
    subst this; decide
  · have h0 : i = 0 := by have : i < 1 := hi; omega
    subst h0
    exact cell_of_row _ _ 0 _ _ _ r2
  · have h0 : i = 0 := by have : i < 1 := hi; omega
    subst h0
    refine ⟨_, _, _, _, _, ⟨cell_of_row _ _ 0 _ _ _ r1, cell_of_row _ _ 1 _ _ _ r1, cell_of_row _ _ 2 _ _ _ r1, cell_of_row _ _ 3 _ _ _ r1, cell_of_row _ _ 4 _ _ _ r1⟩, ?_⟩
    show InH U2 1 (.mk 2 ⟨#[]⟩ ⟨#[]⟩ [] []) _
    exact ⟨none, 0, none, 0, rfl, by decide, by decide, by decide, by decide, by decide, by decide, (fun k hk => by cases hk), ⟨fun h => absurd h (by decide)⟩, fun h => absurd h (by decide)⟩
/-- of what is well shaped all items are gone through -/
theorem held_all {h : Nat} {T : VT} (hf : formN (h + 1) T = true) : heldN T = T.items.length := by
  have e : formN (h + 1) T = formV T.kind T.num T.text T.items.length T.keys.length (T.items.all (formN h)) (rK T.keys T.keys.length && oK T.keys T.keys.length) := rfl
  rw [e] at hf
  unfold heldN
  by_cases h56 : T.kind = 5 ∨ T.kind = 6
  · rw [if_pos h56]
  · rw [if_neg h56]
    unfold formV at hf
    have h5 : T.kind ≠ 5 := fun e => h56 (.inl e)
    have h6 : T.kind ≠ 6 := fun e => h56 (.inr e)
    simp only [h5, h6, if_false] at hf
    have hb : ∀ {a b : ByteArray} {N K : Nat}, bareB a b N K = true → N = 0 := fun {a b N K} h => by
      unfold bareB at h
      simp only [Bool.and_eq_true, decide_eq_true_eq, beq_iff_eq] at h
      omega
    split at hf
    · exact (hb hf).symm
    · split at hf
      · exact (hb (Bool.and_eq_true_iff.1 hf).2).symm
      · split at hf
        · exact (hb (Bool.and_eq_true_iff.1 hf).2).symm
        · cases hf
theorem InF.keepM {lo B : Nat} {W W' : World} (hk : KpN B W W') (hB : W.heap.size ≤ B) : ∀ {h : Nat} {T : VT} {v : Value}, InF lo W h T v → InF lo W' h T v
  | 0, _, _, h => h
  | h + 1, T, v, hI => by
    obtain ⟨io, icap, ko, kcap, e, a1, a2, a3, a4, a5, a6, a7, hk1, hi⟩ := hI
    refine ⟨io, icap, ko, kcap, e, a1, a2, a3, a4, a5, a6, a7, fun h0 => ?_, fun h0 => ?_⟩
    · obtain ⟨b, off, e2, hb, hl, hc⟩ := hk1 h0
      exact ⟨b, off, e2, hb, Nat.lt_of_lt_of_le hl hk.size, fun i hi => hk.cell (by omega) (hc i hi)⟩
    · obtain ⟨b, off, e2, hb, hl, hc⟩ := hi h0
      refine ⟨b, off, e2, hb, Nat.lt_of_lt_of_le hl hk.size, fun i hi => ?_⟩
      obtain ⟨v0, v1, v2, v3, v4, ⟨c0, c1, c2, c3, c4⟩, ht⟩ := hc i hi
      exact ⟨v0, v1, v2, v3, v4, ⟨hk.cell (by omega) c0, hk.cell (by omega) c1, hk.cell (by omega) c2, hk.cell (by omega) c3, hk.cell (by omega) c4⟩, InF.keepM hk hB ht⟩
theorem InO.ownX {lo M : Nat} {W W' : World} {row : Option Nat} {h : Nat} {T : VT} {v : Value} (hI : InO lo W h T v) (hg : W.grownBy W' row) (hr : ∀ r, row = some r → M ≤ r ∧ ∃ o : Obj, W.heap[r]? = some o ∧ o.isCells = false) : InO lo W' h T v := by
  refine ⟨?_, ?_⟩
  · have hk : KpN (lo + 1 + W.heap.size) W W' := KpN.own (β := Unit) () W W' row (KpN.of_below (Below.refl _ _)) hg hr
    exact InF.keepM hk (by omega) hI.1
  · exact OwT.keep (fun g cur t _ hc => cells_ownX hg hr hc) hI.2
/-- what a round of the law's ranges knows of what it was handed -/
structure AX (h : Nat) (ts : List VT) {N : Nat} (M : Nat) (x : EX N) (Bx : Nat) (W : World) : Prop where
  box : W.heap[Bx]? = some (.cells #[x.2.1 0, x.2.1 1, x.2.1 2, x.2.1 3, x.2.1 4] 25 (0, 0))
  lo : M ≤ x.2.2
  bx : x.2.2 ≤ Bx
  tree : ∃ T, ts[x.1.1]? = some T ∧ InO x.2.2 W h T (.agg #[x.2.1 0, x.2.1 1, x.2.1 2, x.2.1 3, x.2.1 4])
theorem AX.own {h : Nat} {ts : List VT} {N M M' : Nat} {x : EX N} {Bx : Nat} {W W' : World} {row : Option Nat} (a : AX h ts M x Bx W) (hg : W.grownBy W' row) (hr : ∀ r, row = some r → M' ≤ r ∧ ∃ o : Obj, W.heap[r]? = some o ∧ o.isCells = false) : AX h ts M x Bx W' := by
  obtain ⟨T, t1, t2⟩ := a.tree
  exact ⟨cells_ownX hg hr a.box, a.lo, a.bx, T, t1, t2.ownX hg hr⟩
theorem AX.new {h : Nat} {ts : List VT} {N M : Nat} {x : EX N} {W : World} (a : EAt h M ts x W) : AX h ts M x W.heap.size (W.alloc (.cells #[x.2.1 0, x.2.1 1, x.2.1 2, x.2.1 3, x.2.1 4] 25)) := by
  obtain ⟨a1, a2, T, a3, a4⟩ := a
  exact ⟨heap_alloc_new W _, a1, a2, T, a3, a4.low (below1 W _)⟩
/-- the cells of a tree that lies as that -/
theorem InO.kinds {lo : Nat} {W : World} {h : Nat} {T : VT} {c : Fin 5 → Value} (hI : InO lo W h T (.agg #[c 0, c 1, c 2, c 3, c 4])) : ∃ (io : Option Addr) (ic : Nat) (ko : Option Addr) (kc : Nat), c 0 = .int .i64 T.kind ∧ c 1 = .string T.num ∧ c 2 = .string T.text ∧ c 3 = .slice io T.items.length ic ∧ c 4 = .slice ko T.keys.length kc := by
  cases h with
  | zero => exact hI.1.elim
  | succ h =>
    obtain ⟨io, ic, ko, kc, e, _⟩ := hI.1
    simp only [Value.agg.injEq, Array.mk.injEq, List.cons.injEq, and_true] at e
    exact ⟨io, ic, ko, kc, e⟩
/-- only rows that lie from lo on and below hi are written into -/
structure Mid (lo hi : Nat) (W0 W : World) : Prop where
  below : Below lo W0 W
  same : ∀ b, hi ≤ b → W.heap[b]? = W0.heap[b]?
  size : W.heap.size = W0.heap.size
  shp : Shp W0 W
theorem Mid.refl (lo hi : Nat) (W : World) : Mid lo hi W W := ⟨Below.refl _ _, fun _ _ => rfl, rfl, Shp.refl _⟩
theorem setCells_other (g : Nat) : ∀ (vs : List Value) (o : Nat) (u : World), (u.setCells g o vs).heap.size = u.heap.size ∧ ∀ b, b ≠ g → (u.setCells g o vs).heap[b]? = u.heap[b]?
  | [], _, _ => ⟨rfl, fun _ _ => rfl⟩
  | v :: r, o, u => by
    obtain ⟨h1, h2⟩ := setCells_other g r (o + 1) (u.setCell ⟨g, o, none⟩ v)
    refine ⟨h1.trans (World.size_setCell ..), fun b hb => (h2 b hb).trans ?_⟩
    exact Below.heap_setCell u ⟨g, o, none⟩ v b (by show b ≠ g; exact hb)
theorem Mid.cells {lo hi : Nat} {W0 W : World} (h : Mid lo hi W0 W) {g : Nat} {cur : Array Value} {e : TypeId} (he : e = 9 ∨ e = 25) (hg : W.heap[g]? = some (.cells cur e (0, 0))) (h1 : lo ≤ g) (h2 : g < hi) (o : Nat) (vs : List Value) : Mid lo hi W0 (W.setCells g o vs) :=
  ⟨below_cells g h1 vs o W h.below, fun b hb => ((setCells_other g vs o W).2 b (by omega)).trans (h.same b hb), (setCells_other g vs o W).1.trans h.size, Shp.setCells he vs o W cur h.shp hg⟩
/-- a place in a row of one's own, as the rows were written -/
theorem Mid.place {lo hi : Nat} {W0 W : World} (h : Mid lo hi W0 W) {e : TypeId} {sz m xc : Nat} {xo : Option Addr} {ys : List Value} (hown : W0.ownsRow lo e sz (.slice xo m xc) m ys) {i : Nat} (hi' : i < m) :
    ∃ g cur, xo = some ⟨g, 0, none⟩ ∧ lo ≤ g ∧ g < W0.heap.size ∧ W.heap[g]? = some (.cells cur e (0, 0)) ∧ W.there g (i * sz) sz := by
  obtain ⟨zs, hz⟩ := h.shp.own hown
  obtain ⟨g, cur, h1, h2, h3, h4⟩ := own_place hz hi'
  exact ⟨g, cur, h1, h2, by rw [← h.size]; exact (Array.getElem?_eq_some_iff.1 h3).1, h3, h4⟩
theorem there_cells {W : World} {g o n : Nat} (h : W.there g o n) {j : Nat} (hj : j < n) : (∃ v, W.cell? ⟨g, o + j, none⟩ = some v) ∧ W.frozen? ⟨g, o + j, none⟩ = false := by
  obtain ⟨h1, h2⟩ := h j hj
  exact ⟨Option.isSome_iff_exists.1 h1, h2⟩
theorem KeptE.of {W : World} {h : Nat} {T : VT} {A : Nat} {io : Option Addr} {ic : Nat} {ko : Option Addr} {kc : Nat} (h1 : W.heap[A]? = some (.cells #[.int .i64 T.kind, .string T.num, .string T.text, .slice io T.items.length ic, .slice ko T.keys.length kc] 25 (0, 0)))
    (h2 : InO (A + 1) W h T (.agg #[.int .i64 T.kind, .string T.num, .string T.text, .slice io T.items.length ic, .slice ko T.keys.length kc])) : KeptE { W with heap := #[] } W h T A io ic ko kc :=
  ⟨Nat.zero_le _, ⟨rfl, rfl, rfl, Nat.zero_le _, fun b hb => absurd hb (Nat.not_lt_zero b)⟩, h1, h2⟩
theorem items_le {W : World} {h n : Nat} {T : VT} {v : Value} (hI : InH W (h + 1) T v) (hs : szN (h + 1) T ≤ n) : T.items.length ≤ n ∧ T.keys.length ≤ n ∧ ∀ x ∈ T.items, szN h x ≤ n := by
  have e : szN (h + 1) T = 1 + T.keys.length + sumL (T.items.map (szN h)) := rfl
  refine ⟨?_, by omega, fun x hx => ?_⟩
  · cases h with
    | zero =>
      rcases Nat.eq_zero_or_pos T.items.length with h0 | h0
      · omega
      · obtain ⟨_, _, _, _, _, _, _, _, _, _, _, _, _, hi⟩ := hI
        obtain ⟨_, _, _, _, hc⟩ := hi h0
        obtain ⟨_, _, _, _, _, _, ht⟩ := hc 0 h0
        exact ht.elim
    | succ h =>
      have := sz_items (h := h) (T := T)
      omega
  · obtain ⟨i, hi, rfl⟩ := List.mem_iff_getElem.1 hx
    have := szN_item (h := h) (T := T) hi
    omega
theorem rf_blockX {F : Fence} {n : Nat} {P : Program} {id : Nat} {c : Code} {Q0 : Exit → Act → World → Prop} {a : Act} {w : World} {M : Nat → World → Prop}
    (h : c.wpIn F n P (fun e a' W => (e = .normal ∨ e = .exit id) ∧ ∃ D, a' = { a with defers := { target := .collected D, args := #[] } :: a.defers } ∧ M D W) a w)
    (hM : ∀ D W, M D W → Q0 .normal { a with defers := { target := .collected D, args := #[] } :: a.defers } W) : c.wpIn F n P (Exit.inBlock id Q0) a w := by
  refine wpIn_mono h ?_
  rintro e a' W ⟨rfl | rfl, D, rfl, hm⟩
  · exact hM D W hm
  · simp [Exit.inBlock]; exact hM D W hm
end Go.Proofs.Ytaflpeajapdkdaa
namespace Go.Proofs.Ytaflpeajapdkdaa
open Go.RowKit Go.Maps Go.Sort Go.Shelf
set_option linter.unusedVariables false
set_option linter.unusedSimpArgs false

theorem form_kindE {h : Nat} {T : VT} (hf : formN (h + 1) T = true) (h0 : 0 < T.items.length) : (T.kind = 5 ∧ T.keys.length = 0) ∨ (T.kind = 6 ∧ T.keys.length = T.items.length) := by
  have e : formN (h + 1) T = formV T.kind T.num T.text T.items.length T.keys.length (T.items.all (formN h)) (rK T.keys T.keys.length && oK T.keys T.keys.length) := rfl
  rw [e] at hf
  have hb : ∀ {a b : ByteArray} {N K : Nat}, bareB a b N K = true → N = 0 ∧ K = 0 := fun {a b N K} h => by
    unfold bareB at h
    simp only [Bool.and_eq_true, decide_eq_true_eq, beq_iff_eq] at h
    omega
  unfold formV at hf
  split at hf
  · have := (hb hf).1; omega
  · split at hf
    · have := (hb (Bool.and_eq_true_iff.1 hf).2).1; omega
    · split at hf
      · have := (hb (Bool.and_eq_true_iff.1 hf).2).1; omega
      · split at hf
        · exact .inl ⟨by assumption, (hb (Bool.and_eq_true_iff.1 hf).2).2⟩
        · split at hf
          · refine .inr ⟨by assumption, ?_⟩
            simp only [Bool.and_eq_true, decide_eq_true_eq] at hf
            omega
          · cases hf

/-- what stands at a place, of what is well shaped -/
theorem w_atE (h : Nat) (T X : VT) (kd : Int) (nm tx : ByteArray) (io : Option Addr) (N ic : Nat) (ko : Option Addr) (K kc : Nat) (i : Nat) (key : ByteArray) (x0 : Int) (x1 x2 : ByteArray) (xo : Option Addr) (xn xc : Nat) (yo : Option Addr) (yn yc : Nat) (w : World)
    (hv : InH w (h + 1) T (.agg #[.int .i64 kd, .string nm, .string tx, .slice io N ic, .slice ko K kc])) (hf : formN (h + 1) T = true) (hN : T.items.length ≤ 1048577) (hTX : T.items[i]? = some X) (hX : InH w h X (.agg #[.int .i64 x0, .string x1, .string x2, .slice xo xn xc, .slice yo yn yc]))
    (hkey : key = kyF T.keys.length (fun i => T.keys.getD i .empty) i) :
    Calls Try.prog 8 #[.agg #[.int .i64 kd, .string nm, .string tx, .slice io N ic, .slice ko K kc], .int .i64 (i : Int), .string key, .agg #[.int .i64 x0, .string x1, .string x2, .slice xo xn xc, .slice yo yn yc]] w fun e w' => e = .returned (.bool true) ∧ Below w.heap.size w w' := by
  obtain ⟨hi, rfl⟩ := List.getElem?_eq_some_iff.1 hTX
  obtain ⟨io', ic', ko', kc', e, _, _, _, _, c5, c6, _, hk, hit⟩ := hv
  simp only [Value.agg.injEq, Array.mk.injEq, List.cons.injEq, Value.int.injEq, Value.string.injEq, Value.slice.injEq, true_and, and_true] at e
  obtain ⟨rfl, rfl, rfl, ⟨rfl, rfl, rfl⟩, rfl, rfl, rfl⟩ := e
  obtain ⟨b, off, rfl, _, hc⟩ := hit (by omega)
  obtain ⟨v0, v1, v2, v3, v4, ⟨r0, r1, r2, r3, r4⟩, hZ⟩ := hc i hi
  obtain ⟨z0, z1, z2, zo, zn, zc, qo, qn, qc, rfl, rfl, rfl, rfl, rfl⟩ := hZ.shape
  have hfk := form_kindE hf (by omega)
  refine w_at h _ _ _ _ b off _ ic ko _ kc i key x0 x1 x2 xo xn xc yo yn yc _ _ _ _ _ _ _ _ _ w hi c5 hN (by rcases hfk with h | h <;> simp [h.1]) hX hZ r0 r1 r2 r3 r4 (fun h6 => ?_) (fun h5 => ?_)
  · have hKN : T.keys.length = T.items.length := by rcases hfk with h | h; · rw [h6] at h; cases h.1
                                                    · exact h.2
    obtain ⟨kb, koff, e1, _, e3⟩ := hk.row (by omega)
    refine ⟨kb, koff, e1, by omega, c6, ?_⟩
    rw [hkey]
    unfold kyF
    rw [if_pos (by omega)]
    exact e3 i (by omega)
  · have hKN : T.keys.length = 0 := by rcases hfk with h | h; · exact h.2
                                       · rw [h5] at h; cases h.1
    rw [hkey]
    unfold kyF
    rw [if_neg (by omega)]
/-- the law's two lists, at first -/
theorem cos_new {w : World} {B L : Nat} (h : w.heap[L]? = some (.cells #[.slice none 0 0, .slice none 0 0] 35 (0, 0))) : CoS w B L 0 :=
  ⟨none, 0, 0, none, 0, 0, h, ⟨Nat.le_refl _, [], ⟨rfl, .inl ⟨rfl, rfl⟩⟩, fun x hx => by cases hx⟩, Nat.le_refl _, [], ⟨rfl, .inl ⟨rfl, rfl⟩⟩, fun x hx => by cases hx⟩
theorem tp_below {w w' : World} (h : Below w.heap.size w w') : Tp w w' := fun g cur t _ hg => (h.block g (Array.getElem?_eq_some_iff.1 hg).1).trans hg
theorem KpM.toN {B : Nat} {W W' : World} (h : KpM W.heap.size B W W') : KpN B W W' := ⟨h.os, h.tape, h.output, h.size, fun b o hb ho hc => h.same b o (Array.getElem?_eq_some_iff.1 ho).1 hb ho hc⟩
theorem kpN_set (B : Nat) (W : World) (v : Value) : KpN B W (W.setCell ⟨B, 0, none⟩ v) :=
  ⟨rfl, rfl, rfl, by rw [World.size_setCell]; exact Nat.le_refl _, fun b o hb ho _ => (Below.heap_setCell _ _ _ _ (by show b ≠ B; exact hb)).trans ho⟩
theorem wpIn_of_skip {F : Fence} {n : Nat} {P : Program} {Q : Exit → Act → World → Prop} {o : Oper} {a : Act} {w w' : World} {next : Act → World → Prop} (hro : F.round = none) (hab : o.about P w a.eval = none) (hx : (execOp a.eval o).run P w = .ok .skip w') (h : next (a.put o.dst undef) w') : o.wpIn F n P a w next Q := by
  refine ⟨fun f hf => (by rw [hab] at hf; cases hf), ?_⟩
  rw [hro, Oper.semAt_none, hx]
  exact h
end Go.Proofs.Ytaflpeajapdkdaa
