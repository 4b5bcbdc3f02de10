import Derived.Test.YtcbngdkekdhfeaaGreatDoorM33
import Derived.Test.YtcbngdkekdhfeaaGreatDoorM31
import Derived.Test.YtcbngdkekdhfeaaGreatDoorM30
import Derived.BigQuiet
import Derived.Test.YtcbngdkekdhfeaaGreatDoorM25
import Derived.Test.YtcbngdkekdhfeaaGreatDoorM32
import Derived.Test.YtcbngdkekdhfeaaGreatDoorM28
namespace Go.Proofs.YtcbngdkekdhfeaaGreatDoor
open Go.RowKit Go.Shelf
set_option linter.unusedVariables false
set_option linter.unusedSimpArgs false
attribute [local go_sem] Oper.semAt_some

theorem folL_up {s : ByteArray} {vl : Tok → Nat → Rd VT} (hv : ValUp s vl) {p q : Nat} {T : VT} (hp : p ≤ s.size) (h : folL s.data.toList vl p = .ok (some T) q) : p < q ∧ q ≤ s.size := by
  unfold folL at h
  have hl : s.data.toList.length = s.size := size_lst s
  split at h
  · next h1 =>
    split at h
    · next h2 =>
      have h3 := nextT_up h1 h2
      have h4 := behL_ge (l := s.data.toList) cBl (by rw [hl]; exact hp)
      split at h
      · next T2 q2 hv2 =>
        injection h with e1 e2
        obtain ⟨c1, c2⟩ := hv _ _ _ _ (by rw [← hl]; exact h3.2) hv2
        omega
      · cases h
    · cases h
  · injection h with e1 e2
    cases e1
def eachL (l : List UInt8) (vl : Tok → Nat → Rd VT) : Nat → List VT → Nat → List VT × Nat × Nat
  | 0, xs, _ => (xs, 0, 0)
  | f + 1, xs, p => match folL l vl p with
    | .ok (some T) q => eachL l vl f (xs ++ [T]) q
    | .ok none _ => (xs, 0, 0)
    | .bad e q => (xs, e, q)
structure MnC (Vb lo h k : Nat) (io : Option Addr) (cap : Nat) (c : Nat → Fin 5 → Value) (xs : List VT) (w : World) : Prop where
  len : xs.length = k
  vl : Vb < lo
  ll : lo ≤ w.heap.size
  box : w.heap[Vb]? = some (.cells #[.slice io k cap] 24 (0, 0))
  own : w.ownsRow lo 27 5 (.slice io k cap) k (flat c k)
  trees : ∀ i, (hi : i < xs.length) → InD (rowD lo (.slice io k cap)) w (h + 1) xs[i] (.agg #[c i 0, c i 1, c i 2, c i 3, c i 4])
theorem MnC.keep {Vb lo H k cap : Nat} {io : Option Addr} {c : Nat → Fin 5 → Value} {xs : List VT} {w w' : World} (h : MnC Vb lo H k io cap c xs w) (hz : w.heap.size ≤ w'.heap.size) (hV : w'.heap[Vb]? = w.heap[Vb]?) (hs : ∀ b, lo ≤ b → b < w.heap.size → w'.heap[b]? = w.heap[b]?) : MnC Vb lo H k io cap c xs w' := by
  have h2 := h.ll
  exact ⟨h.len, h.vl, by omega, hV.trans h.box, own_keepR h.own (fun b hb hl => hs b (own_low h.own hb).1 hl), fun i hi => InD.keep hz (fun b hb hl => hs b hb.1 hl) (fun b hb _ => hb) (h.trees i hi)⟩
theorem MnC.up {Vb lo H k cap : Nat} {io : Option Addr} {c : Nat → Fin 5 → Value} {xs : List VT} {w w' : World} {T : VT} {x0 x1 x2 x3 x4 : Value} (h : MnC Vb lo H k io cap c xs w) (hT : InD (rowD lo (.slice io k cap)) w (H + 1) T (.agg #[x0, x1, x2, x3, x4])) (hm : M1R lo Vb k (.slice io k cap) (flat c k ++ [x0, x1, x2, x3, x4]) w w') :
    ∃ g cap', MnC Vb lo H (k + 1) (some ⟨g, 0, none⟩) cap' (cUp k c x0 x1 x2 x3 x4) (xs ++ [T]) w' := by
  obtain ⟨g, cap', hbox, hown, hat⟩ := hm.row
  have hlen := h.len
  have hvl := h.vl
  have hll := h.ll
  have hsz := hm.size
  have kk : ∀ b, rowD lo (.slice io k cap) b → b < w.heap.size → w'.heap[b]? = w.heap[b]? := fun b hb hl => hm.block b hl (by have := hb.1; omega) hb.2
  have dd : ∀ b, rowD lo (.slice io k cap) b → b < w.heap.size → rowD lo (.slice (some ⟨g, 0, none⟩) (k + 1) cap') b := fun b hb hl => ⟨hb.1, fun e => by
    simp [Value.ownBlock] at e
    subst e
    rcases hat with h1 | h1
    · exact hb.2 h1
    · omega⟩
  refine ⟨g, cap', by rw [List.length_append, hlen]; rfl, hvl, by omega, hbox, by rw [flat_cUp]; exact hown, fun i hi => ?_⟩
  rw [List.length_append] at hi
  have hi' : i < xs.length + 1 := hi
  by_cases hik : i < xs.length
  · rw [List.getElem_append_left hik]
    have e : cUp k c x0 x1 x2 x3 x4 i = c i := by unfold cUp; rw [if_neg (by omega)]
    rw [e]
    exact InD.keep hsz kk dd (h.trees i hik)
  · have e : i = xs.length := by omega
    subst e
    rw [List.getElem_append_right (Nat.le_refl _)]
    have e0 : cUp k c x0 x1 x2 x3 x4 xs.length 0 = x0 := by unfold cUp; rw [if_pos hlen]
    have e1 : cUp k c x0 x1 x2 x3 x4 xs.length 1 = x1 := by unfold cUp; rw [if_pos hlen]
    have e2 : cUp k c x0 x1 x2 x3 x4 xs.length 2 = x2 := by unfold cUp; rw [if_pos hlen]
    have e3 : cUp k c x0 x1 x2 x3 x4 xs.length 3 = x3 := by unfold cUp; rw [if_pos hlen]
    have e4 : cUp k c x0 x1 x2 x3 x4 xs.length 4 = x4 := by unfold cUp; rw [if_pos hlen]
    rw [e0, e1, e2, e3, e4]
    simp only [Nat.sub_self, List.getElem_cons_zero]
    exact InD.keep hsz kk dd hT
structure EM (Vb lo H : Nat) (xs : List VT) (s : ByteArray) (p : Nat) (w u : World) : Prop where
  mn : ∃ k io cap c, MnC Vb lo H k io cap c xs u
  inp : InAt u (w.heap.size + 1) s p
  err : ErrIn u
  res : u.heap[w.heap.size]? = some (.cells #[.int .i64 0, .int .i64 0] 64 (0, 0))
  bel : Bel Vb w.heap.size w u
  lo : lo = w.heap.size + 1 + 1
  vw : Vb < w.heap.size
  fit : xs.length ≤ p
theorem EM.but {Vb lo H : Nat} {xs : List VT} {s : ByteArray} {p q : Nat} {w u u' : World} (h : EM Vb lo H xs s p w u) (gI : w.heap.size + 1 ≠ 3) (hb : But (w.heap.size + 1) u u') (hi : InAt u' (w.heap.size + 1) s q) (hq : xs.length ≤ q) : EM Vb lo H xs s q w u' := by
  obtain ⟨k, io, cap, c, hm⟩ := h.mn
  have h1 := h.lo
  have h2 := h.vw
  have h3 := h.bel.size
  have h4 := h.inp.lt
  refine ⟨⟨k, io, cap, c, hm.keep hb.size (hb.block _ (by omega) (by omega)) (fun b g1 g2 => hb.block b g2 (by omega))⟩, hi, hb.errIn h.inp h.err gI, (hb.block _ (by omega) (by omega)).trans h.res, ⟨hb.os.trans h.bel.os, hb.tape.trans h.bel.tape, hb.output.trans h.bel.output, Nat.le_trans h3 hb.size, fun b g1 g2 => (hb.block b (by omega) (by omega)).trans (h.bel.block b g1 g2)⟩, h1, h2, hq⟩
theorem EM.low {Vb lo H : Nat} {xs : List VT} {s : ByteArray} {p : Nat} {w u u' : World} (h : EM Vb lo H xs s p w u) (gI : w.heap.size + 1 ≠ 3) (hb : Below u.heap.size u u') : EM Vb lo H xs s p w u' := h.but gI (But.of hb) (h.inp.keep hb) h.fit
theorem EM.up {Vb lo H k cap : Nat} {io : Option Addr} {c : Nat → Fin 5 → Value} {xs : List VT} {s : ByteArray} {p : Nat} {w u u' : World} {T : VT} {x0 x1 x2 x3 x4 : Value} (h : EM Vb lo H xs s p w u) (gE : 3 < w.heap.size) (gV : Vb ≠ 3) (hM : MnC Vb lo H k io cap c xs u) (hT : InD (rowD lo (.slice io k cap)) u (H + 1) T (.agg #[x0, x1, x2, x3, x4])) (hm : M1R lo Vb k (.slice io k cap) (flat c k ++ [x0, x1, x2, x3, x4]) u u') (hf : xs.length + 1 ≤ p) : EM Vb lo H (xs ++ [T]) s p w u' := by
  obtain ⟨g, cap', hM'⟩ := hM.up hT hm
  have h1 := h.lo
  have h2 := h.vw
  have h3 := h.bel.size
  have h4 := h.inp.lt
  have hz := hm.size
  have nb : ∀ b, b < lo → (Value.slice io k cap).ownBlock ≠ some b := fun b hb e => by have := (own_low hM.own e).1; omega
  have blk : ∀ b, b < lo → b ≠ Vb → u'.heap[b]? = u.heap[b]? := fun b hb hn => hm.block b (by omega) hn (nb b hb)
  refine ⟨⟨_, _, _, _, hM'⟩, (blk _ (by omega) (by omega)).trans h.inp, ?_, (blk _ (by omega) (by omega)).trans h.res, ⟨hm.os.trans h.bel.os, hm.tape.trans h.bel.tape, hm.output.trans h.bel.output, by omega, fun b g1 g2 => (blk b (by omega) g2).trans (h.bel.block b g1 g2)⟩, h1, h2, by rw [List.length_append]; exact hf⟩
  obtain ⟨ev, hc, hv⟩ := h.err
  refine ⟨ev, ?_, hv⟩
  have := blk _ (by omega) (fun e => gV e.symm)
  unfold World.cell? at hc ⊢
  rw [this]; exact hc
end Go.Proofs.YtcbngdkekdhfeaaGreatDoor
namespace Go.Proofs.YtcbngdkekdhfeaaGreatDoor
open Go.RowKit Go.Shelf
set_option linter.unusedVariables false
set_option linter.unusedSimpArgs false
attribute [local go_sem] Oper.semAt_some

structure EachR (Vb H : Nat) (R : List VT × Nat × Nat) (w : World) (e : Ending) (w' : World) : Prop where
  ret : e = .returned (fltV R.2.1 R.2.2)
  mn : ∃ k io cap c, MnC Vb (w.heap.size + 1 + 1) H k io cap c R.1 w'
  bel : Bel Vb w.heap.size w w'

theorem fbox_cells {w : World} {B : Nat} {t : TypeId} {y0 y1 : Value} (h : w.heap[B]? = some (.cells #[y0, y1] t (0, 0))) : w.cell? ⟨B, 0, none⟩ = some y0 ∧ w.cell? ⟨B, 1, none⟩ = some y1 ∧ w.frozen? ⟨B, 0, none⟩ = false ∧ w.frozen? ⟨B, 1, none⟩ = false := by
  refine ⟨?_, ?_, frozen_rowT h, frozen_rowT h⟩ <;> rw [cell_of_row _ _ _ _ _ _ h] <;> rfl
theorem each_end {u : World} {B : Nat} {t : TypeId} {y0 y1 : Value} (h : u.heap[B]? = some (.cells #[y0, y1] t (0, 0))) (a b : Value) (o1 o2 : Obj) :
    (((((u.setCell ⟨B, 0, none⟩ a).setCell ⟨B, 1, none⟩ b).alloc o1).alloc o2).cell? ⟨B, 0, none⟩ = some a ∧ ((((u.setCell ⟨B, 0, none⟩ a).setCell ⟨B, 1, none⟩ b).alloc o1).alloc o2).cell? ⟨B, 1, none⟩ = some b) ∧ But B u ((((u.setCell ⟨B, 0, none⟩ a).setCell ⟨B, 1, none⟩ b).alloc o1).alloc o2) := by
  have hl := (Array.getElem?_eq_some_iff.1 h).1
  have e1 := rset (i := 1) (c := #[a, y1]) b (rset (i := 0) (c := #[y0, y1]) a h)
  have e2 : ((((u.setCell ⟨B, 0, none⟩ a).setCell ⟨B, 1, none⟩ b).alloc o1).alloc o2).heap[B]? = some (.cells #[a, b] t (0, 0)) := (Below.heap_alloc _ _ _ (by simp; omega)).trans ((Below.heap_alloc _ _ _ (by simp; omega)).trans e1)
  obtain ⟨c0, c1, _⟩ := fbox_cells e2
  refine ⟨⟨c0, c1⟩, rfl, rfl, rfl, by simp; omega, fun k hk hn => ?_⟩
  rw [Below.heap_alloc _ _ _ (by simp; omega), Below.heap_alloc _ _ _ (by simp; omega), Below.heap_setCell _ _ _ _ hn, Below.heap_setCell _ _ _ _ hn]

set_option maxRecDepth 100000 in
set_option maxHeartbeats 3200000 in
theorem w_each (s : ByteArray) (ss : s.size ≤ 16777216) (H Vb : Nat) (vl : Tok → Nat → Rd VT) (HV : ∀ I, I ≠ 3 → ValOk s I H vl) (HU : ValUp s vl) (htx : ∀ p, (nextT s.data.toList (behL s.data.toList p cBl)).text.length ≤ 140737488355328) (w : World) (hV : w.heap[Vb]? = some (.cells #[.slice none 0 0] 24 (0, 0))) (gV : Vb ≠ 3) (hE : ErrIn w) :
    Calls Tryz.prog 29 #[.string s, .func (.func 31) #[] #[.pointer (some ⟨Vb, 0, none⟩)]] w fun e w' => EachR Vb H (eachL s.data.toList vl (s.size + 1) [] 0) w e w' := by
  have gE : 3 < w.heap.size := by
    obtain ⟨ev, hc, _⟩ := hE
    exact World.block_lt_of_cell? w _ hc
  have hVl : Vb < w.heap.size := (Array.getElem?_eq_some_iff.1 hV).1
  have gI : w.heap.size + 1 ≠ 3 := by omega
  have HC := Hid.mk (fun (u : World) (p : Nat) (hp : p ≤ s.size) (hu : InAt u (w.heap.size + 1) s p) (hEu : ErrIn u) => w_caught_following s ss (w.heap.size + 1) p H hp vl (HV _ gI) (htx p) u hu hEu gI)
  have HU' := Hid.mk HU
  have hent := enters_of Tryz.func31 (by kernel_rfl) rfl
  have hmf : ∀ (fn : Fn) (first cap : Array Value) (w : World), (Instr.makeFunc fn first cap).run Tryz.prog w = .ok (.func fn first cap) w := fun _ _ _ _ => rfl
  obtain ⟨R, hR⟩ : ∃ R, eachL s.data.toList vl (s.size + 1) [] 0 = R := ⟨_, rfl⟩
  rw [hR]
  have HRR := Hid.mk hR
  have HS0 : Hid (EM Vb (w.heap.size + 1 + 1) H [] s 0 w ((w.alloc (.cells #[.int .i64 0, .int .i64 0] 64)).alloc (.cells #[.string s, .int .i64 0] 62))) := by
    have hb0 : Below w.heap.size w ((w.alloc (.cells #[.int .i64 0, .int .i64 0] 64)).alloc (.cells #[.string s, .int .i64 0] 62)) := (below1 w _).alloc (by simp) _
    refine ⟨⟨0, none, 0, fun _ _ => undef, rfl, by omega, by simp, (hb0.block _ hVl).trans hV, World.ownsRow_nil _ _ _ _, fun i hi => absurd hi (Nat.not_lt_zero i)⟩, ?_, hE.keep hb0, ?_, ⟨hb0.os, hb0.tape, hb0.output, hb0.size, fun b g1 _ => hb0.block b g1⟩, rfl, hVl, Nat.zero_le _⟩
    · have := heap_alloc_new (w.alloc (.cells #[.int .i64 0, .int .i64 0] 64)) (.cells #[.string s, .int .i64 0] 62)
      rw [World.size_alloc] at this
      exact this
    · exact (Below.heap_alloc _ _ _ (by simp)).trans (heap_alloc_new w _)
  have HG := Hid.mk (And.intro gI (And.intro gE gV))
  clear hR HV HU htx hV hE gI gV
  go_enter Tryz.func29, Tryz.ntmps29
  go_wp2_with fail
  go_loopw [7] (fun a wr => ∃ (f : Nat) (xs : List VT) (p : Nat), p ≤ s.size ∧ Hid (s.size < p + f) ∧ Hid (EM Vb (w.heap.size + 1 + 1) H xs s p w wr) ∧ Hid (eachL s.data.toList vl f xs p = R)) (fun _ wr => s.size + 1 - posOf (w.heap.size + 1) wr)
  case atStart => exact ⟨_, [], 0, Nat.zero_le _, (by show s.size < 0 + (s.size + 1); omega), HS0, HRR.out⟩
  case round =>
    clear HS0
    obtain ⟨f, xs, p, hp, HF, HS, HL⟩ := hrel
    obtain ⟨f, rfl⟩ : ∃ f', f = f' + 1 := ⟨f - 1, by have := HF.out; omega⟩
    have hLL := HL.out
    unfold eachL at hLL
    have hpos := HS.out.inp.pos
    have HPos := Hid.mk hpos
    clear hpos HL
    have HLL := Hid.mk hLL
    clear hLL
    go_wp2_with fail
    refine (HC.out _ p hp HS.out.inp HS.out.err).mono ?_
    rintro e w1 ⟨hbut, hm⟩
    have hres := HS.out.res
    have hLL := HLL.out
    have hw1 : w.heap.size + 1 < w1.heap.size := by have h1 := HS.out.inp.lt; have h2 := hbut.size; omega
    have hw2 : w.heap.size < w1.heap.size := by omega
    have hr1 : w1.heap[w.heap.size]? = some (.cells #[.int .i64 0, .int .i64 0] 64 (0, 0)) := (hbut.block _ (by have := HS.out.inp.lt; omega) (by omega)).trans hres
    have HBe : Hid (∀ u, But w.heap.size w1 u → Bel Vb w.heap.size w u ∧ ∃ k io cap c, MnC Vb (w.heap.size + 1 + 1) H k io cap c xs u) := fun u hu => by
      obtain ⟨k, io, cap, c, hM⟩ := HS.out.mn
      have hl := HS.out.bel
      have hi := HS.out.inp.lt
      have hz1 := hbut.size
      have hz2 := hu.size
      exact ⟨⟨hu.os.trans (hbut.os.trans hl.os), hu.tape.trans (hbut.tape.trans hl.tape), hu.output.trans (hbut.output.trans hl.output), by have := hl.size; omega, fun b g1 g2 => (hu.block b (by omega) (by omega)).trans ((hbut.block b (by omega) (by omega)).trans (hl.block b g1 g2))⟩, k, io, cap, c, hM.keep (by omega) ((hu.block _ (by omega) (by omega)).trans (hbut.block _ (by omega) (by omega))) (fun b g1 g2 => (hu.block b (by omega) (by omega)).trans (hbut.block b g2 (by omega)))⟩
    cases hfo : folL s.data.toList vl p with
    | bad er q =>
      rw [hfo] at hm hLL
      have hm' : e = .returned (.tuple #[v0V, .bool false, fltV er q]) := hm
      subst hm'
      have HR2 : Hid (R = (xs, er, q)) := hLL.symm
      clear hLL hfo hbut HLL
      unfold v0V fltV
      obtain ⟨rc0, rc1, rf0, rf1⟩ := fbox_cells hr1
      have HR1 := Hid.mk hr1
      clear hr1 hres
      go_wp2_with fail
      obtain ⟨⟨z1, z2⟩, z3⟩ := each_end HR1.out (.int .i64 (er : Int)) (.int .i64 (q : Int)) (.cells #[.int .i64 0, .string ⟨#[]⟩, .string ⟨#[]⟩, .slice none 0 0, .slice none 0 0] 27) (.cells #[.int .i64 (er : Int), .int .i64 (q : Int)] 64)
      refine bodyPost_ret (v := .agg #[.int .i64 (er : Int), .int .i64 (q : Int)]) (by simp [results, Tryz.results29, go_sem, z1, z2]) rfl ?_
      obtain ⟨y1, y2⟩ := HBe.out _ z3
      rw [HR2.out]
      exact ⟨rfl, y2, y1⟩
    | ok o q =>
      cases o with
      | none =>
        rw [hfo] at hm hLL
        obtain ⟨rfl, hin⟩ := hm
        have HR2 : Hid (R = (xs, 0, 0)) := hLL.symm
        clear hLL hfo hbut HLL hin
        unfold v0V fltV
        obtain ⟨rc0, rc1, rf0, rf1⟩ := fbox_cells hr1
        have HR1 := Hid.mk hr1
        clear hr1 hres
        go_wp2_with fail
        obtain ⟨⟨z1, z2⟩, z3⟩ := each_end HR1.out (.int .i64 0) (.int .i64 0) (.cells #[.int .i64 0, .string ⟨#[]⟩, .string ⟨#[]⟩, .slice none 0 0, .slice none 0 0] 27) (.cells #[.int .i64 0, .int .i64 0] 64)
        refine bodyPost_ret (v := .agg #[.int .i64 0, .int .i64 0]) (by simp [results, Tryz.results29, go_sem, z1, z2]) rfl ?_
        obtain ⟨y1, y2⟩ := HBe.out _ z3
        rw [HR2.out]
        exact ⟨rfl, y2, y1⟩
      | some T =>
        rw [hfo] at hm hLL
        obtain ⟨⟨v, rfl, hF⟩, hin⟩ := hm
        obtain ⟨f1, f2⟩ := folL_up HU'.out hp hfo
        have HL2 : Hid (eachL s.data.toList vl f (xs ++ [T]) q = R) := hLL
        have hfit := HS.out.fit
        have HS1 := Hid.mk (HS.out.but HG.out.1 hbut hin (by omega))
        obtain ⟨jo, jc, ko, kc, rfl, hrest⟩ := id hF
        clear hrest
        have HS2 := Hid.mk ((HS1.out.low HG.out.1 (below1 w1 (.cells #[.int .i64 T.kind, .string T.num, .string T.text, .slice jo T.items.length jc, .slice ko T.keys.length kc] 27))).low HG.out.1 (below1 _ (.cells #[.int .i64 0, .int .i64 0] 64)))
        obtain ⟨k, io, cap, c, hM⟩ := HS.out.mn
        have hlo := HS.out.lo
        have hiw := HS.out.inp.lt
        have hz1 := hbut.size
        have hb2 : Below w1.heap.size w1 ((w1.alloc (.cells #[.int .i64 T.kind, .string T.num, .string T.text, .slice jo T.items.length jc, .slice ko T.keys.length kc] 27)).alloc (.cells #[.int .i64 0, .int .i64 0] 64)) := (below1 w1 _).alloc (by simp) _
        have hM2 := hM.keep (w' := (w1.alloc (.cells #[.int .i64 T.kind, .string T.num, .string T.text, .slice jo T.items.length jc, .slice ko T.keys.length kc] 27)).alloc (.cells #[.int .i64 0, .int .i64 0] 64)) (by have := hb2.size; omega) ((hb2.block _ (by omega)).trans (hbut.block _ (by omega) (by omega))) (fun b g1 g2 => (hb2.block b (by omega)).trans (hbut.block b g2 (by omega)))
        have HT : Hid (InD (rowD (w.heap.size + 1 + 1) (.slice io k cap)) ((w1.alloc (.cells #[.int .i64 T.kind, .string T.num, .string T.text, .slice jo T.items.length jc, .slice ko T.keys.length kc] 27)).alloc (.cells #[.int .i64 0, .int .i64 0] 64)) (H + 1) T (.agg #[.int .i64 T.kind, .string T.num, .string T.text, .slice jo T.items.length jc, .slice ko T.keys.length kc])) := InD.keep hb2.size (fun b _ hl => hb2.block b hl) (fun b hb _ => ⟨by have : wr.heap.size ≤ b := hb; omega, fun e => by have h1 := (own_low hM.own e).2; have h2 : wr.heap.size ≤ b := hb; omega⟩) (InD.iff.2 hF)
        have HY := Hid.mk (w_many1 (w.heap.size + 1 + 1) Vb k io cap c T.kind T.num T.text jo T.items.length jc ko T.keys.length kc _ (by have := hM.len; omega) hM2.ll hM2.vl hM2.box hM2.own)
        have HMM := Hid.mk hM2
        have HQ := Hid.mk (And.intro f1 (And.intro f2 hfit))
        clear hLL hfo hbut HLL hin hF hM hM2 hb2 hlo hiw hr1 hres f1 f2 hfit HBe
        generalize T.kind = tk at *
        generalize T.num = tn at *
        generalize T.text = tt at *
        generalize T.items.length = ti at *
        generalize T.keys.length = tq at *
        unfold fltV
        go_wp2_with fail
        refine HY.out.mono ?_
        rintro e w3 ⟨rfl, hm3⟩
        have HE3 := Hid.mk (HS2.out.up HG.out.2.1 HG.out.2.2 HMM.out HT.out hm3 (by have := HQ.out; omega))
        clear hm3
        have hpos3 := HE3.out.inp.pos
        have HPos3 := Hid.mk hpos3
        clear hpos3
        go_wp2_with fail
        go_roundw
        case rel => exact ⟨f, xs ++ [T], q, HQ.out.2.1, (by show s.size < q + f; have := HF.out; have := HQ.out; omega), HE3, HL2⟩
        case measure =>
          have := HPos.out
          have := HPos3.out
          have := HQ.out
          omega
end Go.Proofs.YtcbngdkekdhfeaaGreatDoor
namespace Go.Proofs.YtcbngdkekdhfeaaGreatDoor
open Go.RowKit Go.Shelf
set_option linter.unusedVariables false
set_option linter.unusedSimpArgs false
attribute [local go_sem] Oper.semAt_some

def ManyR (H : Nat) (R : List VT × Nat × Nat) (w : World) (e : Ending) (w' : World) : Prop := Below w.heap.size w w' ∧
  ((R.2.1 = 0 ∧ ∃ k io cap c, e = .returned (.tuple #[.slice io k cap, .int .i64 0, .int .i64 0]) ∧ MnC w.heap.size (w.heap.size + 1 + 1 + 1) H k io cap c R.1 w') ∨
   (R.2.1 ≠ 0 ∧ e = .returned (.tuple #[.slice none 0 0, .int .i64 (R.2.1 : Int), .int .i64 (R.2.2 : Int)])))

set_option maxRecDepth 100000 in
set_option maxHeartbeats 3200000 in
theorem w_Many (s : ByteArray) (ss : s.size ≤ 16777216) (H : Nat) (vl : Tok → Nat → Rd VT) (HV : ∀ I, I ≠ 3 → ValOk s I H vl) (HU : ValUp s vl) (htx : ∀ p, (nextT s.data.toList (behL s.data.toList p cBl)).text.length ≤ 140737488355328) (w : World) (hE : ErrIn w) :
    Calls Tryz.prog 17 #[.string s] w fun e w' => ManyR H (eachL s.data.toList vl (s.size + 1) [] 0) w e w' := by
  have gE : 3 < w.heap.size := by
    obtain ⟨ev, hc, _⟩ := hE
    exact World.block_lt_of_cell? w _ hc
  have hn := heap_alloc_new w (.cells #[.slice none 0 0] 24)
  have HEa := Hid.mk (w_each s ss H w.heap.size vl HV HU htx (w.alloc (.cells #[.slice none 0 0] 24)) hn (by omega) (hE.keep (below1 w _)))
  have hmf : ∀ (fn : Fn) (first cap : Array Value) (w : World), (Instr.makeFunc fn first cap).run Tryz.prog w = .ok (.func fn first cap) w := fun _ _ _ _ => rfl
  obtain ⟨R, hR⟩ : ∃ R, eachL s.data.toList vl (s.size + 1) [] 0 = R := ⟨_, rfl⟩
  rw [hR] at HEa ⊢
  clear hR HV HU htx hE hn
  go_enter Tryz.func17, Tryz.ntmps17
  go_wp2_with fail
  refine HEa.out.mono ?_
  rintro e w1 ⟨rfl, ⟨k, io, cap, c, hM⟩, hbel⟩
  obtain ⟨xs, er, q⟩ := R
  have hsz : w.heap.size < w1.heap.size := by have := hbel.size; simp at this; omega
  have hB : Below w.heap.size w w1 := ⟨hbel.os, hbel.tape, hbel.output, by omega, fun b hb => (hbel.block b (by simp; omega) (by omega)).trans (Below.heap_alloc _ _ _ hb)⟩
  have hcb : w1.cell? ⟨w.heap.size, 0, none⟩ = some (.slice io k cap) := by rw [cell_of_row _ _ _ _ _ _ hM.box]; rfl
  rw [World.size_alloc] at hM
  have HN := Hid.mk (And.intro hB hM)
  clear hB hM hbel HEa
  unfold fltV
  dsimp only
  by_cases h0 : er = 0
  · subst h0
    go_wp2_with fail
    refine bodyPost_ret (v := .tuple #[.slice io k cap, .int .i64 0, .int .i64 0]) (by simp [results, Tryz.results17, go_sem]) rfl ?_
    exact ⟨HN.out.1.alloc HN.out.1.size _, .inl ⟨rfl, k, io, cap, c, rfl, HN.out.2.keep (by simp) (Below.heap_alloc _ _ _ (by omega)) (fun b _ hl => Below.heap_alloc _ _ _ hl)⟩⟩
  · have hb : (((er : Nat) : Int) == 0) = false := by rw [beq_eq_false_iff_ne]; omega
    have H0 := Hid.mk h0
    clear h0
    go_wp2_with fail
    go_quiet (fail)
    generalize hwd : (w1.alloc (.cells #[.int .i64 (er : Int), .int .i64 (q : Int)] 64)).drewN nq = W
    have HW : Hid (Below w.heap.size w W) := by
      show Below _ _ _
      rw [← hwd]
      have hx := HN.out.1.alloc HN.out.1.size (.cells #[.int .i64 (er : Int), .int .i64 (q : Int)] 64)
      exact ⟨hx.os, hx.tape, hx.output, hx.size, hx.block⟩
    clear hwd
    go_wp2_with fail
    refine bodyPost_ret (v := .tuple #[.slice none 0 0, .int .i64 (er : Int), .int .i64 (q : Int)]) (by simp [results, Tryz.results17, go_sem]) rfl ?_
    exact ⟨HW.out, .inr ⟨H0.out, rfl⟩⟩
end Go.Proofs.YtcbngdkekdhfeaaGreatDoor
namespace Go.Proofs.YtcbngdkekdhfeaaGreatDoor
open Go.RowKit Go.Shelf
set_option linter.unusedVariables false
set_option linter.unusedSimpArgs false
attribute [local go_sem] Oper.semAt_some

def ans5 (x0 x1 x2 x3 x4 : Value) (q c : Nat) : Value := .agg #[x0, x1, x2, x3, x4, .int .i64 (q : Int), .int .i64 (c : Int)]
def bad5 (q c : Nat) : Value := ans5 (.int .i64 0) (.string ⟨#[]⟩) (.string ⟨#[]⟩) (.slice none 0 0) (.slice none 0 0) q c
def An5 (h : Nat) (w : World) (r : Rd VT) (e : Ending) (w' : World) : Prop := Below w.heap.size w w' ∧
  match r with
  | .ok T q => ∃ x0 x1 x2 x3 x4, e = .returned (ans5 x0 x1 x2 x3 x4 q 0) ∧ InF w.heap.size w' (h + 1) T (.agg #[x0, x1, x2, x3, x4])
  | .bad er q => er ≠ 0 ∧ e = .returned (bad5 q er)
theorem box7_cells {w : World} {B : Nat} {t : TypeId} {y0 y1 y2 y3 y4 y5 y6 : Value} (h : w.heap[B]? = some (.cells #[y0, y1, y2, y3, y4, y5, y6] t (0, 0))) :
    w.cell? ⟨B, 0, none⟩ = some y0 ∧ w.cell? ⟨B, 1, none⟩ = some y1 ∧ w.cell? ⟨B, 2, none⟩ = some y2 ∧ w.cell? ⟨B, 3, none⟩ = some y3 ∧ w.cell? ⟨B, 4, none⟩ = some y4 ∧ w.cell? ⟨B, 5, none⟩ = some y5 ∧ w.cell? ⟨B, 6, none⟩ = some y6 ∧ w.frozen? ⟨B, 0, none⟩ = false ∧ w.frozen? ⟨B, 1, none⟩ = false ∧ w.frozen? ⟨B, 2, none⟩ = false ∧ w.frozen? ⟨B, 3, none⟩ = false ∧ w.frozen? ⟨B, 4, none⟩ = false ∧ w.frozen? ⟨B, 5, none⟩ = false ∧ w.frozen? ⟨B, 6, none⟩ = false := by
  refine ⟨?_, ?_, ?_, ?_, ?_, ?_, ?_, frozen_rowT h, frozen_rowT h, frozen_rowT h, frozen_rowT h, frozen_rowT h, frozen_rowT h, frozen_rowT h⟩ <;> rw [cell_of_row _ _ _ _ _ _ h] <;> rfl
set_option maxHeartbeats 1600000 in
theorem rbox_set7 (w : World) (B : Nat) (t : TypeId) (y0 y1 y2 y3 y4 y5 y6 a0 a1 a2 a3 a4 a5 a6 : Value) (h : w.heap[B]? = some (.cells #[y0, y1, y2, y3, y4, y5, y6] t (0, 0))) (wz : World) (hz : wz = (((((((w.setCell ⟨B, 0, none⟩ (a0)).setCell ⟨B, 1, none⟩ (a1)).setCell ⟨B, 2, none⟩ (a2)).setCell ⟨B, 3, none⟩ (a3)).setCell ⟨B, 4, none⟩ (a4)).setCell ⟨B, 5, none⟩ (a5)).setCell ⟨B, 6, none⟩ (a6))) :
    wz.heap[B]? = some (.cells #[a0, a1, a2, a3, a4, a5, a6] t (0, 0)) ∧ (∀ b, b ≠ B → wz.heap[b]? = w.heap[b]?) ∧ wz.heap.size = w.heap.size := by
  subst hz
  refine ⟨rset (i := 6) (c := #[a0, a1, a2, a3, a4, a5, y6]) a6 (rset (i := 5) (c := #[a0, a1, a2, a3, a4, y5, y6]) a5 (rset (i := 4) (c := #[a0, a1, a2, a3, y4, y5, y6]) a4 (rset (i := 3) (c := #[a0, a1, a2, y3, y4, y5, y6]) a3 (rset (i := 2) (c := #[a0, a1, y2, y3, y4, y5, y6]) a2 (rset (i := 1) (c := #[a0, y1, y2, y3, y4, y5, y6]) a1 (rset (i := 0) (c := #[y0, y1, y2, y3, y4, y5, y6]) a0 (h))))))), fun b hb => ?_, by simp⟩
  rw [Below.heap_setCell _ _ _ _ hb, Below.heap_setCell _ _ _ _ hb, Below.heap_setCell _ _ _ _ hb, Below.heap_setCell _ _ _ _ hb, Below.heap_setCell _ _ _ _ hb, Below.heap_setCell _ _ _ _ hb, Below.heap_setCell _ _ _ _ hb]

set_option maxRecDepth 100000 in
theorem w_5bad (c q : Nat) (w : World) : Calls Tryz.prog 47 #[.int .i64 (c : Int), .int .i64 (q : Int)] w fun e w' => Below w.heap.size w w' ∧ e = .returned (bad5 q c) := by
  go_enter Tryz.func47, Tryz.ntmps47
  go_wp2_with fail
  refine bodyPost_ret (v := bad5 q c) (by simp [bad5, ans5, results, Tryz.results47, go_sem]) rfl ?_
  exact ⟨below1 w _, rfl⟩

set_option maxRecDepth 100000 in
set_option maxHeartbeats 1600000 in
theorem w_5wrong (sg a z : Nat) (tx : List UInt8) (cd : Nat) (w : World) : Calls Tryz.prog 46 #[pc5 sg a z tx cd] w fun e w' => Below w.heap.size w w' ∧ e = .returned (bad5 a (if cd = 0 then (if sg = 36 then 50 else 51) else cd)) := by
  unfold pc5
  have HBd := Hid.mk (fun (c : Nat) (u : World) => w_5bad c a u)
  have key : ∀ (w1 : World) (hb : Below ((w.alloc (.cells #[.int .u8 (sg : Int), .int .i64 (a : Int), .int .i64 (z : Int), .string ⟨tx.toArray⟩, .int .i64 (cd : Int)] 69)).alloc (.cells #[.int .i64 0, .string ⟨#[]⟩, .string ⟨#[]⟩, .slice none 0 0, .slice none 0 0, .int .i64 0, .int .i64 0] 72)).heap.size ((w.alloc (.cells #[.int .u8 (sg : Int), .int .i64 (a : Int), .int .i64 (z : Int), .string ⟨tx.toArray⟩, .int .i64 (cd : Int)] 69)).alloc (.cells #[.int .i64 0, .string ⟨#[]⟩, .string ⟨#[]⟩, .slice none 0 0, .slice none 0 0, .int .i64 0, .int .i64 0] 72)) w1), w1.heap[w.heap.size + 1]? = some (.cells #[.int .i64 0, .string ⟨#[]⟩, .string ⟨#[]⟩, .slice none 0 0, .slice none 0 0, .int .i64 0, .int .i64 0] 72 (0, 0)) ∧ Below w.heap.size w w1 := fun w1 hb => by
    have hn := heap_alloc_new (w.alloc (.cells #[.int .u8 (sg : Int), .int .i64 (a : Int), .int .i64 (z : Int), .string ⟨tx.toArray⟩, .int .i64 (cd : Int)] 69)) (.cells #[.int .i64 0, .string ⟨#[]⟩, .string ⟨#[]⟩, .slice none 0 0, .slice none 0 0, .int .i64 0, .int .i64 0] 72)
    rw [World.size_alloc] at hn
    exact ⟨(hb.block _ (by simp)).trans hn, ((below1 w _).alloc (by simp) _).trans (hb.mono (by simp; omega))⟩
  have HK := Hid.mk key
  clear key
  by_cases hc : cd = 0
  · subst hc
    rw [if_pos rfl]
    by_cases hs : sg = 36
    · subst hs
      rw [if_pos rfl]
      go_enter Tryz.func46, Tryz.ntmps46
      go_wp2_with fail
      refine (HBd.out 50 _).mono ?_
      rintro e w1 ⟨hb1, rfl⟩
      obtain ⟨h1, h2⟩ := HK.out w1 hb1
      obtain ⟨c0, c1, c2, c3, c4, c5, c6, f0, f1, f2, f3, f4, f5, f6⟩ := box7_cells h1
      have HX := Hid.mk h1
      have HB := Hid.mk h2
      clear hb1 h1 h2
      unfold bad5 ans5
      go_wp2_with fail
      (try simp only [Exit.inBlock, Exit.then])
      generalize hz7 : (((((((w1.setCell ⟨w.heap.size + 1, 0, none⟩ (.int .i64 0)).setCell ⟨w.heap.size + 1, 1, none⟩ (.string ⟨#[]⟩)).setCell ⟨w.heap.size + 1, 2, none⟩ (.string ⟨#[]⟩)).setCell ⟨w.heap.size + 1, 3, none⟩ (.slice none 0 0)).setCell ⟨w.heap.size + 1, 4, none⟩ (.slice none 0 0)).setCell ⟨w.heap.size + 1, 5, none⟩ (.int .i64 (a : Int))).setCell ⟨w.heap.size + 1, 6, none⟩ (.int .i64 50)) = wz
      obtain ⟨e7, k7, s7⟩ := rbox_set7 w1 _ _ _ _ _ _ _ _ _ _ _ _ _ _ _ _ HX.out wz hz7.symm
      obtain ⟨d0, d1, d2, d3, d4, d5, d6, _⟩ := box7_cells e7
      have hbz : Below w.heap.size w wz := by rw [← hz7]; exact ((((((HB.out.setCell (p := ⟨w.heap.size + 1, 0, none⟩) (by show w.heap.size ≤ w.heap.size + 1; omega) _).setCell (p := ⟨w.heap.size + 1, 1, none⟩) (by show w.heap.size ≤ w.heap.size + 1; omega) _).setCell (p := ⟨w.heap.size + 1, 2, none⟩) (by show w.heap.size ≤ w.heap.size + 1; omega) _).setCell (p := ⟨w.heap.size + 1, 3, none⟩) (by show w.heap.size ≤ w.heap.size + 1; omega) _).setCell (p := ⟨w.heap.size + 1, 4, none⟩) (by show w.heap.size ≤ w.heap.size + 1; omega) _).setCell (p := ⟨w.heap.size + 1, 5, none⟩) (by show w.heap.size ≤ w.heap.size + 1; omega) _).setCell (p := ⟨w.heap.size + 1, 6, none⟩) (by show w.heap.size ≤ w.heap.size + 1; omega) _
      refine bodyPost_ret (v := .agg #[.int .i64 0, .string ⟨#[]⟩, .string ⟨#[]⟩, .slice none 0 0, .slice none 0 0, .int .i64 (a : Int), .int .i64 50]) (by simp [results, Tryz.results46, go_sem, d0, d1, d2, d3, d4, d5, d6]) rfl ?_
      exact ⟨hbz, rfl⟩
    · rw [if_neg hs]
      have hsb : (((sg : Nat) : Int) == 36) = false := by rw [beq_eq_false_iff_ne]; omega
      have hsn : ¬ ((sg : Nat) : Int) = 36 := by omega
      clear hs
      go_enter Tryz.func46, Tryz.ntmps46
      go_wp2_with fail
      refine (HBd.out 51 _).mono ?_
      rintro e w1 ⟨hb1, rfl⟩
      obtain ⟨h1, h2⟩ := HK.out w1 hb1
      obtain ⟨c0, c1, c2, c3, c4, c5, c6, f0, f1, f2, f3, f4, f5, f6⟩ := box7_cells h1
      have HX := Hid.mk h1
      have HB := Hid.mk h2
      clear hb1 h1 h2
      unfold bad5 ans5
      go_wp2_with fail
      (try simp only [Exit.inBlock, Exit.then])
      generalize hz7 : (((((((w1.setCell ⟨w.heap.size + 1, 0, none⟩ (.int .i64 0)).setCell ⟨w.heap.size + 1, 1, none⟩ (.string ⟨#[]⟩)).setCell ⟨w.heap.size + 1, 2, none⟩ (.string ⟨#[]⟩)).setCell ⟨w.heap.size + 1, 3, none⟩ (.slice none 0 0)).setCell ⟨w.heap.size + 1, 4, none⟩ (.slice none 0 0)).setCell ⟨w.heap.size + 1, 5, none⟩ (.int .i64 (a : Int))).setCell ⟨w.heap.size + 1, 6, none⟩ (.int .i64 51)) = wz
      obtain ⟨e7, k7, s7⟩ := rbox_set7 w1 _ _ _ _ _ _ _ _ _ _ _ _ _ _ _ _ HX.out wz hz7.symm
      obtain ⟨d0, d1, d2, d3, d4, d5, d6, _⟩ := box7_cells e7
      have hbz : Below w.heap.size w wz := by rw [← hz7]; exact ((((((HB.out.setCell (p := ⟨w.heap.size + 1, 0, none⟩) (by show w.heap.size ≤ w.heap.size + 1; omega) _).setCell (p := ⟨w.heap.size + 1, 1, none⟩) (by show w.heap.size ≤ w.heap.size + 1; omega) _).setCell (p := ⟨w.heap.size + 1, 2, none⟩) (by show w.heap.size ≤ w.heap.size + 1; omega) _).setCell (p := ⟨w.heap.size + 1, 3, none⟩) (by show w.heap.size ≤ w.heap.size + 1; omega) _).setCell (p := ⟨w.heap.size + 1, 4, none⟩) (by show w.heap.size ≤ w.heap.size + 1; omega) _).setCell (p := ⟨w.heap.size + 1, 5, none⟩) (by show w.heap.size ≤ w.heap.size + 1; omega) _).setCell (p := ⟨w.heap.size + 1, 6, none⟩) (by show w.heap.size ≤ w.heap.size + 1; omega) _
      refine bodyPost_ret (v := .agg #[.int .i64 0, .string ⟨#[]⟩, .string ⟨#[]⟩, .slice none 0 0, .slice none 0 0, .int .i64 (a : Int), .int .i64 51]) (by simp [results, Tryz.results46, go_sem, d0, d1, d2, d3, d4, d5, d6]) rfl ?_
      exact ⟨hbz, rfl⟩
  · rw [if_neg hc]
    have hcb : (((cd : Nat) : Int) == 0) = false := by rw [beq_eq_false_iff_ne]; omega
    have hcn : ¬ ((cd : Nat) : Int) = 0 := by omega
    clear hc
    go_enter Tryz.func46, Tryz.ntmps46
    go_wp2_with fail
    refine (HBd.out cd _).mono ?_
    rintro e w1 ⟨hb1, rfl⟩
    obtain ⟨h1, h2⟩ := HK.out w1 hb1
    obtain ⟨c0, c1, c2, c3, c4, c5, c6, f0, f1, f2, f3, f4, f5, f6⟩ := box7_cells h1
    have HX := Hid.mk h1
    have HB := Hid.mk h2
    clear hb1 h1 h2
    unfold bad5 ans5
    go_wp2_with fail
    (try simp only [Exit.inBlock, Exit.then])
    generalize hz7 : (((((((w1.setCell ⟨w.heap.size + 1, 0, none⟩ (.int .i64 0)).setCell ⟨w.heap.size + 1, 1, none⟩ (.string ⟨#[]⟩)).setCell ⟨w.heap.size + 1, 2, none⟩ (.string ⟨#[]⟩)).setCell ⟨w.heap.size + 1, 3, none⟩ (.slice none 0 0)).setCell ⟨w.heap.size + 1, 4, none⟩ (.slice none 0 0)).setCell ⟨w.heap.size + 1, 5, none⟩ (.int .i64 (a : Int))).setCell ⟨w.heap.size + 1, 6, none⟩ (.int .i64 (cd : Int))) = wz
    obtain ⟨e7, k7, s7⟩ := rbox_set7 w1 _ _ _ _ _ _ _ _ _ _ _ _ _ _ _ _ HX.out wz hz7.symm
    obtain ⟨d0, d1, d2, d3, d4, d5, d6, _⟩ := box7_cells e7
    have hbz : Below w.heap.size w wz := by rw [← hz7]; exact ((((((HB.out.setCell (p := ⟨w.heap.size + 1, 0, none⟩) (by show w.heap.size ≤ w.heap.size + 1; omega) _).setCell (p := ⟨w.heap.size + 1, 1, none⟩) (by show w.heap.size ≤ w.heap.size + 1; omega) _).setCell (p := ⟨w.heap.size + 1, 2, none⟩) (by show w.heap.size ≤ w.heap.size + 1; omega) _).setCell (p := ⟨w.heap.size + 1, 3, none⟩) (by show w.heap.size ≤ w.heap.size + 1; omega) _).setCell (p := ⟨w.heap.size + 1, 4, none⟩) (by show w.heap.size ≤ w.heap.size + 1; omega) _).setCell (p := ⟨w.heap.size + 1, 5, none⟩) (by show w.heap.size ≤ w.heap.size + 1; omega) _).setCell (p := ⟨w.heap.size + 1, 6, none⟩) (by show w.heap.size ≤ w.heap.size + 1; omega) _
    refine bodyPost_ret (v := .agg #[.int .i64 0, .string ⟨#[]⟩, .string ⟨#[]⟩, .slice none 0 0, .slice none 0 0, .int .i64 (a : Int), .int .i64 (cd : Int)]) (by simp [results, Tryz.results46, go_sem, d0, d1, d2, d3, d4, d5, d6]) rfl ?_
    exact ⟨hbz, rfl⟩
end Go.Proofs.YtcbngdkekdhfeaaGreatDoor
namespace Go.Proofs.YtcbngdkekdhfeaaGreatDoor
open Go.RowKit Go.Shelf
set_option linter.unusedVariables false
set_option linter.unusedSimpArgs false
attribute [local go_sem] Oper.semAt_some

set_option maxRecDepth 100000 in
set_option maxHeartbeats 1600000 in
theorem w_5Has (ko : Option Addr) (kcap : Nat) (keys : List ByteArray) (x : ByteArray) (w : World) (hk : KIn w ko keys) (hcap : keys.length ≤ kcap) (hK : keys.length ≤ 140737488355328) :
    Calls Tryz.prog 22 #[.slice ko keys.length kcap, .string x] w fun e w' => e = .returned (.bool (keys.any fun k => k.toList == x.toList)) ∧ w' = w := by
  have HK := Hid.mk hk
  obtain ⟨K, hKK⟩ : ∃ K, keys.length = K := ⟨_, rfl⟩
  have HKK := Hid.mk hKK
  rw [hKK] at hcap hK ⊢
  clear hk hKK
  go_enter Tryz.func22, Tryz.ntmps22
  go_wp2_with fail
  go_loopw [5] (fun i wr => ∃ k : Nat, k ≤ K ∧ i = .int .i64 (k : Int) ∧ Hid ((keys.take k).any (fun y => y.toList == x.toList) = false) ∧ wr = w) (fun i _ => K - (intOf i).toNat)
  case atStart => exact ⟨0, Nat.zero_le _, rfl, rfl, rfl⟩
  case round =>
    obtain ⟨k, hk, rfl, HQ, rfl⟩ := hrel
    by_cases hlt : k < K
    · have hl1 : (k : Int) < (K : Int) := by omega
      have hkl : k < keys.length := by rw [HKK.out]; exact hlt
      obtain ⟨b, off, hko, hbl, hrow⟩ := HK.out.row (by omega)
      subst hko
      have c1 := hrow k hkl
      have HT : Hid (keys.take (k + 1) = keys.take k ++ [keys.getD k .empty]) := by
        show _ = _
        rw [List.take_succ_eq_append_getElem hkl]
        simp [List.getD, hkl]
      have HM : Hid (keys.getD k .empty ∈ keys) := by
        show _ ∈ _
        simp [List.getD, hkl]
      generalize keys.getD k ByteArray.empty = y at c1 HT HM
      clear hrow hbl hkl
      cases hy : (y.toList == x.toList) with
      | true =>
        have HA : Hid (keys.any (fun k => k.toList == x.toList) = true) := by
          show _ = _
          rw [List.any_eq_true]
          exact ⟨y, HM.out, hy⟩
        go_wp2_with fail
        go_ret
        exact ⟨by first | (rw [HA.out]; rfl) | exact HA.out | (have := HA.out; simp_all), by first | rfl | trivial⟩
      | false =>
        have HN : Hid ((keys.take (k + 1)).any (fun y => y.toList == x.toList) = false) := by
          show _ = _
          rw [HT.out, List.any_append, HQ.out]
          simp only [List.any_cons, List.any_nil, Bool.or_false, Bool.false_or]
          exact hy
        go_wp2_with fail
        go_roundw
        case rel => exact ⟨k + 1, hlt, by go_num, HN, by first | rfl | trivial⟩
        case measure => simp [intOf]; omega
    · have hl1 : ¬ (k : Int) < (K : Int) := by omega
      have HA : Hid (keys.any (fun k => k.toList == x.toList) = false) := by
        show _ = _
        rw [← HQ.out, List.take_of_length_le (by rw [HKK.out]; omega)]
      go_wp2_with fail
      go_ret
      exact ⟨by first | (rw [HA.out]; rfl) | exact HA.out | (have := HA.out; simp_all), by first | rfl | trivial⟩

def lessF (f : List UInt8 × VT) (l : List (List UInt8 × VT)) : Nat := (l.takeWhile fun g => decide (g.1 < f.1)).length
theorem insF_cut (f : List UInt8 × VT) : ∀ l, insF f l = l.take (lessF f l) ++ f :: l.drop (lessF f l)
  | [] => rfl
  | g :: r => by
    unfold insF lessF
    rw [List.takeWhile_cons]
    by_cases h : g.1 < f.1
    · rw [if_pos h, if_pos (decide_eq_true h), insF_cut f r]
      rfl
    · rw [if_neg h, if_neg (by rw [decide_eq_true_eq]; exact h)]
      rfl
end Go.Proofs.YtcbngdkekdhfeaaGreatDoor
namespace Go.Proofs.YtcbngdkekdhfeaaGreatDoor
open Go.RowKit Go.Shelf
set_option linter.unusedVariables false
set_option linter.unusedSimpArgs false

theorem bytesLess_lt : ∀ a b : List UInt8, Op.bytesLess a b = decide (a < b)
  | [], [] => by simp [Op.bytesLess]
  | [], _ :: _ => by simp [Op.bytesLess]
  | _ :: _, [] => by simp [Op.bytesLess]
  | c :: r, d :: t => by
    have hbl : Op.bytesLess (c :: r) (d :: t) = (decide (c < d) || (c == d && Op.bytesLess r t)) := rfl
    rw [hbl, bytesLess_lt r t]
    by_cases h1 : c < d
    · simp [List.cons_lt_cons_iff, h1]
    · by_cases h2 : c = d
      · subst h2
        simp [List.cons_lt_cons_iff, h1]
      · simp [List.cons_lt_cons_iff, h1, h2]
theorem lessF_cons (f g : List UInt8 × VT) (r : List (List UInt8 × VT)) : lessF f (g :: r) = if g.1 < f.1 then lessF f r + 1 else 0 := by
  unfold lessF
  rw [List.takeWhile_cons]
  by_cases h : g.1 < f.1
  · rw [if_pos h, if_pos (decide_eq_true h)]; rfl
  · rw [if_neg h, if_neg (by rw [decide_eq_true_eq]; exact h)]; rfl
theorem lessF_le (f : List UInt8 × VT) : ∀ l, lessF f l ≤ l.length
  | [] => Nat.le_refl _
  | g :: r => by
    rw [lessF_cons]
    have := lessF_le f r
    split
    · show _ ≤ r.length + 1; omega
    · exact Nat.zero_le _
theorem lessF_lt (f : List UInt8 × VT) : ∀ l i g, i < lessF f l → l[i]? = some g → g.1 < f.1
  | [], i, g, h, e => by simp at e
  | x :: r, i, g, h, e => by
    rw [lessF_cons] at h
    split at h
    · next hx =>
      cases i with
      | zero => simp at e; subst e; exact hx
      | succ i => exact lessF_lt f r i g (by omega) (by simpa using e)
    · omega
theorem lessF_at (f : List UInt8 × VT) : ∀ l g, l[lessF f l]? = some g → ¬ g.1 < f.1
  | [], g, e => by simp at e
  | x :: r, g, e => by
    rw [lessF_cons] at e
    split at e
    · exact lessF_at f r g (by simpa using e)
    · next hx => simp at e; subst e; exact hx
theorem insF_lt {f : List UInt8 × VT} {l : List (List UInt8 × VT)} {i : Nat} (h : i < lessF f l) : (insF f l)[i]? = l[i]? := by
  have := lessF_le f l
  rw [insF_cut, List.getElem?_append_left (by rw [List.length_take]; omega), List.getElem?_take_of_lt h]
theorem insF_eq {f : List UInt8 × VT} {l : List (List UInt8 × VT)} : (insF f l)[lessF f l]? = some f := by
  have := lessF_le f l
  rw [insF_cut, List.getElem?_append_right (by rw [List.length_take]; omega), List.length_take]
  rw [show lessF f l - min (lessF f l) l.length = 0 from by omega]
  rfl
theorem insF_gt {f : List UInt8 × VT} {l : List (List UInt8 × VT)} {i : Nat} (h : lessF f l ≤ i) : (insF f l)[i + 1]? = l[i]? := by
  have := lessF_le f l
  rw [insF_cut, List.getElem?_append_right (by rw [List.length_take]; omega), List.length_take]
  rw [show i + 1 - min (lessF f l) l.length = (i - lessF f l) + 1 from by omega, List.getElem?_cons_succ, List.getElem?_drop]
  congr 1
  omega
def cIns (m : Nat) (old : Nat → Fin 5 → Value) (x : Fin 5 → Value) (i : Nat) : Fin 5 → Value := if i < m then old i else if i = m then x else old (i - 1)
theorem cIns_lt {m : Nat} {old : Nat → Fin 5 → Value} {x : Fin 5 → Value} {i : Nat} (h : i < m) : cIns m old x i = old i := by unfold cIns; rw [if_pos h]
theorem cIns_eq {m : Nat} {old : Nat → Fin 5 → Value} {x : Fin 5 → Value} : cIns m old x m = x := by unfold cIns; rw [if_neg (by omega), if_pos rfl]
theorem cIns_gt {m : Nat} {old : Nat → Fin 5 → Value} {x : Fin 5 → Value} {i : Nat} (h : m ≤ i) : cIns m old x (i + 1) = old i := by unfold cIns; rw [if_neg (by omega), if_neg (by omega)]; rfl
def kyN (l : List (List UInt8 × VT)) (i : Nat) : List UInt8 := (l.map (·.1)).getD i []
theorem kyN_of {l : List (List UInt8 × VT)} {i : Nat} {g : List UInt8 × VT} (h : l[i]? = some g) : kyN l i = g.1 := by unfold kyN; simp [List.getD, h]
def fldT (l : List (List UInt8 × VT)) : VT := .mk 6 .empty .empty (l.map (·.2)) (l.map fun f => bT f.1)
theorem objT_fld (fs : List (List UInt8 × VT)) : objT fs = fldT (objS fs) := rfl
theorem gr_done2 {lo H n : Nat} {l : List (List UInt8 × VT)} {w W0 W u : World} {ky : Nat → List UInt8} {c : Nat → Fin 5 → Value} {io ko : Option Addr} {ic kc : Nat} (hlo : lo ≤ w.heap.size) (hl : l.length = n) (hn : n ≤ 16777216) (hkl : ∀ f ∈ l, f.1.length ≤ 140737488355328)
    (hky : ∀ i g, l[i]? = some g → ky i = g.1) (hc : ∀ i g, l[i]? = some g → InF lo w (H + 1) g.2 (.agg #[c i 0, c i 1, c i 2, c i 3, c i 4]))
    (h : GrS w W0 ky c n n (.slice io n ic) (.slice ko n kc) W) (hz : W.heap.size ≤ u.heap.size) (hs : ∀ b, lo ≤ b → b < W.heap.size → b ≠ w.heap.size → u.heap[b]? = W.heap[b]?) :
    InF lo u (H + 1 + 1) (fldT l) (.agg #[.int .i64 6, .string ⟨#[]⟩, .string ⟨#[]⟩, .slice io n ic, .slice ko n kc]) := by
  have h1 := h.lo
  have h2 := h.le
  have hbz := h.below.size
  have ci : n ≤ ic := by
    rcases h.items.2 with ⟨e, e2⟩ | ⟨g, c2, cur, e, e1, e2, e3, e4, e5, e6⟩
    · omega
    · simp only [Value.slice.injEq] at e; omega
  have ck : n ≤ kc := by
    rcases h.keys.2 with ⟨e, e2⟩ | ⟨g, c2, cur, e, e1, e2, e3, e4, e5, e6⟩
    · omega
    · simp only [Value.slice.injEq] at e; omega
  have eI : (fldT l).items.length = n := by show (l.map (·.2)).length = _; rw [List.length_map, hl]
  have eK : (fldT l).keys.length = n := by show (l.map fun f => bT f.1).length = _; rw [List.length_map, hl]
  refine ⟨io, ic, ko, kc, ?_, by show ByteArray.empty.size ≤ _; decide, by show ByteArray.empty.size ≤ _; decide, by omega, by omega, by omega, by omega, ?_, ?_, ?_⟩
  · rw [eI, eK]; rfl
  · intro x hx
    obtain ⟨f, hf, rfl⟩ := List.mem_map.1 hx
    have := hkl f hf
    show f.1.toArray.size ≤ _
    simpa using this
  · intro h0
    rcases h.keys.2 with ⟨e, e2⟩ | ⟨g, c2, cur, e, e1, e2, _⟩
    · omega
    · simp only [Value.slice.injEq] at e
      obtain ⟨rfl, _, rfl⟩ := e
      have hgl := (Array.getElem?_eq_some_iff.1 e2).1
      refine ⟨g, 0, rfl, by omega, by omega, fun i hi => ?_⟩
      have hi' : i < n := by omega
      have h5 : l[i]? = some (l[i]'(by omega)) := List.getElem?_eq_getElem (by omega)
      rw [Nat.zero_add, World.cell?_of_block (a := ⟨g, i, none⟩) (hs g (by omega) hgl (by omega)), own_cellAt h.keys (by omega)]
      unfold kyR
      rw [List.getElem?_map, List.getElem?_range hi']
      show some (Value.string ⟨(ky i).toArray⟩) = some (.string ((l.map fun f => bT f.1).getD i .empty))
      rw [hky i _ h5]
      simp [List.getD, h5, bT]
  · intro h0
    rcases h.items.2 with ⟨e, e2⟩ | ⟨g, c2, cur, e, e1, e2, _⟩
    · omega
    · simp only [Value.slice.injEq] at e
      obtain ⟨rfl, _, rfl⟩ := e
      have hgl := (Array.getElem?_eq_some_iff.1 e2).1
      refine ⟨g, 0, rfl, by omega, by omega, fun i hi => ?_⟩
      have hi' : i < n := by omega
      have h5 : l[i]? = some (l[i]'(by omega)) := List.getElem?_eq_getElem (by omega)
      have cc : ∀ j : Fin 5, u.cell? ⟨g, i * 5 + j.1, none⟩ = some (c i j) := fun j => by
        rw [World.cell?_of_block (a := ⟨g, i * 5 + j.1, none⟩) (hs g (by omega) hgl (by omega)), own_cellAt h.items (by have := j.2; omega)]
        exact flat_get _ _ i j hi'
      have hT := hc i _ h5
      refine ⟨_, _, _, _, _, ⟨by rw [Nat.zero_add]; exact cc 0, by rw [Nat.zero_add]; exact cc 1, by rw [Nat.zero_add]; exact cc 2, by rw [Nat.zero_add]; exact cc 3, by rw [Nat.zero_add]; exact cc 4⟩, ?_⟩
      have ei : (fldT l).items[i] = (l[i]'(by omega)).2 := by
        have : (fldT l).items[i]? = some (l[i]'(by omega)).2 := by
          show (l.map (·.2))[i]? = _
          rw [List.getElem?_map, h5]; rfl
        exact (List.getElem?_eq_some_iff.1 this).2
      rw [ei]
      exact InF.keepB (by omega) (fun b hb hl => (hs b hb (by omega) (by omega)).trans (h.below.block b hl)) (Nat.le_refl _) hT
structure ObO (lo H : Nat) (l : List (List UInt8 × VT)) (w : World) (kb koff ib ioff : Nat) (c : Nat → Fin 5 → Value) : Prop where
  hkb : 0 < l.length → lo ≤ kb ∧ kb < w.heap.size
  hib : 0 < l.length → lo ≤ ib ∧ ib < w.heap.size
  key : ∀ i g, l[i]? = some g → w.cell? ⟨kb, koff + i, none⟩ = some (.string ⟨g.1.toArray⟩)
  item : ∀ i g, l[i]? = some g → (w.cell? ⟨ib, ioff + i * 5, none⟩ = some (c i 0) ∧ w.cell? ⟨ib, ioff + i * 5 + 1, none⟩ = some (c i 1) ∧ w.cell? ⟨ib, ioff + i * 5 + 2, none⟩ = some (c i 2) ∧ w.cell? ⟨ib, ioff + i * 5 + 3, none⟩ = some (c i 3) ∧ w.cell? ⟨ib, ioff + i * 5 + 4, none⟩ = some (c i 4)) ∧ InF lo w (H + 1) g.2 (.agg #[c i 0, c i 1, c i 2, c i 3, c i 4])
theorem obO_of {lo H n : Nat} {l : List (List UInt8 × VT)} {w : World} {v : Value} (hl : l.length = n) (hv : InF lo w (H + 1 + 1) (fldT l) v) : ∃ io ic ko kc kb koff ib ioff c, v = .agg #[.int .i64 6, .string ⟨#[]⟩, .string ⟨#[]⟩, .slice io n ic, .slice ko n kc] ∧ n ≤ ic ∧ n ≤ kc ∧ (0 < n → ko = some ⟨kb, koff, none⟩ ∧ io = some ⟨ib, ioff, none⟩) ∧ ObO lo H l w kb koff ib ioff c := by
  obtain ⟨io, ic, ko, kc, e, a1, a2, a3, a4, a5, a6, a7, hk, hi⟩ := hv
  have eI : (fldT l).items.length = n := by show (l.map (·.2)).length = _; rw [List.length_map, hl]
  have eK : (fldT l).keys.length = n := by show (l.map fun f => bT f.1).length = _; rw [List.length_map, hl]
  rw [eI, eK] at e
  rw [eI] at a5
  rw [eK] at a6
  by_cases h0 : 0 < n
  · obtain ⟨kb, koff, e1, b1, b2, b3⟩ := hk (by omega)
    obtain ⟨ib, ioff, e3, d1, d2, d3⟩ := hi (by omega)
    refine ⟨io, ic, ko, kc, kb, koff, ib, ioff, fun i j => (w.cell? ⟨ib, ioff + i * 5 + j.1, none⟩).getD undef, e, a5, a6, fun _ => ⟨e1, e3⟩, fun _ => ⟨b1, b2⟩, fun _ => ⟨d1, d2⟩, fun i g hg => ?_, fun i g hg => ?_⟩
    · have hil := (List.getElem?_eq_some_iff.1 hg).1
      rw [b3 i (by omega)]
      show some (Value.string ((l.map fun f => bT f.1).getD i .empty)) = _
      simp [List.getD, hg, bT]
    · have hil := (List.getElem?_eq_some_iff.1 hg).1
      obtain ⟨v0, v1, v2, v3, v4, ⟨c0, c1, c2, c3, c4⟩, ht⟩ := d3 i (by omega)
      have ei : (fldT l).items[i]'(by omega) = g.2 := by
        have : (fldT l).items[i]? = some g.2 := by
          show (l.map (·.2))[i]? = _
          rw [List.getElem?_map, hg]; rfl
        exact (List.getElem?_eq_some_iff.1 this).2
      rw [ei] at ht
      have f0 : (w.cell? ⟨ib, ioff + i * 5 + (0 : Fin 5).1, none⟩).getD undef = v0 := by show (w.cell? ⟨ib, ioff + i * 5 + 0, none⟩).getD undef = v0; rw [Nat.add_zero, c0]; rfl
      have f1 : (w.cell? ⟨ib, ioff + i * 5 + (1 : Fin 5).1, none⟩).getD undef = v1 := by show (w.cell? ⟨ib, ioff + i * 5 + 1, none⟩).getD undef = v1; rw [c1]; rfl
      have f2 : (w.cell? ⟨ib, ioff + i * 5 + (2 : Fin 5).1, none⟩).getD undef = v2 := by show (w.cell? ⟨ib, ioff + i * 5 + 2, none⟩).getD undef = v2; rw [c2]; rfl
      have f3 : (w.cell? ⟨ib, ioff + i * 5 + (3 : Fin 5).1, none⟩).getD undef = v3 := by show (w.cell? ⟨ib, ioff + i * 5 + 3, none⟩).getD undef = v3; rw [c3]; rfl
      have f4 : (w.cell? ⟨ib, ioff + i * 5 + (4 : Fin 5).1, none⟩).getD undef = v4 := by show (w.cell? ⟨ib, ioff + i * 5 + 4, none⟩).getD undef = v4; rw [c4]; rfl
      simp only [f0, f1, f2, f3, f4]
      exact ⟨⟨c0, c1, c2, c3, c4⟩, ht⟩
  · obtain rfl : n = 0 := by omega
    have hl0 : l = [] := List.eq_nil_of_length_eq_zero hl
    subst hl0
    exact ⟨io, ic, ko, kc, 0, 0, 0, 0, fun _ _ => undef, e, a5, a6, fun h => absurd h (by omega), fun h => absurd h (by show ¬ 0 < 0; omega), fun h => absurd h (by show ¬ 0 < 0; omega), fun i g hg => by simp at hg, fun i g hg => by simp at hg⟩
end Go.Proofs.YtcbngdkekdhfeaaGreatDoor
namespace Go.Proofs.YtcbngdkekdhfeaaGreatDoor
open Go.RowKit Go.Shelf
set_option linter.unusedVariables false
set_option linter.unusedSimpArgs false
attribute [local go_sem] Oper.semAt_some

theorem w_5Next (s : ByteArray) (p : Nat) (w : World) (hp : p ≤ s.size) (hs : s.size ≤ 1048576) :
    Calls Tryz.prog 26 #[.string s, .int .i64 (p : Int)] w fun e w' => Below w.heap.size w w' ∧ Nx5 s.data.toList p e := by
  by_cases hlt : behL s.data.toList p cBl < s.data.toList.length
  · cases hnm : cMk.contains (s.data.toList.getD (behL s.data.toList p cBl) 0) with
    | true =>
      have h := (mk_pos _).2 hnm
      rw [mk_tab] at h
      by_cases h0 : (s.data.toList.getD (behL s.data.toList p cBl) 0).toNat = 123
      · exact w_5Next_m0 s p w hp hs hlt h0
      by_cases h1 : (s.data.toList.getD (behL s.data.toList p cBl) 0).toNat = 125
      · exact w_5Next_m1 s p w hp hs hlt h1
      by_cases h2 : (s.data.toList.getD (behL s.data.toList p cBl) 0).toNat = 91
      · exact w_5Next_m2 s p w hp hs hlt h2
      by_cases h3 : (s.data.toList.getD (behL s.data.toList p cBl) 0).toNat = 93
      · exact w_5Next_m3 s p w hp hs hlt h3
      by_cases h4 : (s.data.toList.getD (behL s.data.toList p cBl) 0).toNat = 58
      · exact w_5Next_m4 s p w hp hs hlt h4
      by_cases h5 : (s.data.toList.getD (behL s.data.toList p cBl) 0).toNat = 44
      · exact w_5Next_m5 s p w hp hs hlt h5
      rw [if_neg h0, if_neg h1, if_neg h2, if_neg h3, if_neg h4, if_neg h5] at h
      omega
    | false =>
      by_cases hq : (s.data.toList.getD (behL s.data.toList p cBl) 0) = 34
      · by_cases hc : (unqL s.data.toList (behL s.data.toList p cBl + 1) []).2.2 = 0
        · exact w_5Next_lit0 s p w hp hs hlt hnm hq hc
        · exact w_5Next_lit1 s p w hp hs hlt hnm hq hc
      · cases hl : cLe.contains (s.data.toList.getD (behL s.data.toList p cBl) 0) with
        | true => exact w_5Next_word s p w hp hs hlt hnm hq hl
        | false =>
          cases hd : cDm.contains (s.data.toList.getD (behL s.data.toList p cBl) 0) with
          | true =>
            cases hg : cDg.contains (s.data.toList.getD (behL s.data.toList p cBl) 0) with
            | true => exact w_5Next_num1 s p w hp hs hlt hnm hq hl hd hg
            | false => exact w_5Next_num0 s p w hp hs hlt hnm hq hl hd hg
          | false => exact w_5Next_byte s p w hp hs hlt hnm hq hl hd
  · exact w_5Next_end s p w hp hs hlt
theorem nextT_kind {l : List UInt8} {q : Nat} (h : (nextT l q).err = 0) : 1 ≤ (nextT l q).kind ∧ (nextT l q).kind ≤ 11 := by
  unfold nextT at h ⊢
  split
  · next hc =>
    show 1 ≤ (1 + Lib.indexByte cMk (l.getD q 0)).toNat ∧ _
    have e : (1 + Lib.indexByte cMk (l.getD q 0)).toNat = mkN (l.getD q 0) := by unfold mkN; rw [if_pos hc]
    have h1 := (mk_pos _).2 hc
    have h2 := mk_tab (l.getD q 0)
    have h3 : mkN (l.getD q 0) ≤ 6 := by
      rw [h2]
      repeat' split
      all_goals omega
    show _ ∧ (1 + Lib.indexByte cMk (l.getD q 0)).toNat ≤ 11
    rw [e]
    omega
  · next hc =>
    rw [if_neg hc] at h
    split
    · next h34 =>
      rw [if_pos h34] at h
      unfold litT at h ⊢
      split
      · exact ⟨(by show 1 ≤ 11; omega), (by show 11 ≤ 11; omega)⟩
      · next h0 => rw [if_neg h0] at h; exact absurd h h0
    · next h34 =>
      rw [if_neg h34] at h
      split
      · next hl =>
        rw [if_pos hl] at h
        unfold wordT at h ⊢
        split
        · exact ⟨(by show 1 ≤ 7; omega), (by show 7 ≤ 11; omega)⟩
        · next h0 =>
          rw [if_neg h0] at h
          split
          · exact ⟨(by show 1 ≤ 8; omega), (by show 8 ≤ 11; omega)⟩
          · next h1 =>
            rw [if_neg h1] at h
            split
            · exact ⟨(by show 1 ≤ 9; omega), (by show 9 ≤ 11; omega)⟩
            · next h2 => rw [if_neg h2] at h; cases h
      · next hl =>
        rw [if_neg hl] at h
        split
        · next hd =>
          rw [if_pos hd] at h
          unfold numeralT at h ⊢
          split
          · exact ⟨(by show 1 ≤ 10; omega), (by show 10 ≤ 11; omega)⟩
          · next h0 => rw [if_neg h0] at h; cases h
        · next hd => rw [if_neg hd] at h; cases h
theorem nx5_must {l : List UInt8} {p : Nat} {e : Ending} (h : Nx5 l p e) : (∃ t p1, mustL l p = .ok t p1 ∧ 1 ≤ t.kind ∧ t.kind ≤ 11 ∧ e = .returned (pc5 (sg5 t.kind) t.at_ p1 t.text 0)) ∨
    (∃ sg q z cd er, mustL l p = .bad er q ∧ er ≠ 0 ∧ e = .returned (pc5 sg q z [] cd) ∧ ((cd ≠ 0 ∧ er = cd) ∨ (cd = 0 ∧ sg = 36 ∧ er = 50))) := by
  unfold mustL
  rcases h with ⟨h1, rfl⟩ | ⟨h1, ht⟩
  · rw [if_neg h1]
    exact .inr ⟨36, l.length, l.length, 0, 50, rfl, by omega, rfl, .inr ⟨rfl, rfl, rfl⟩⟩
  · rw [if_pos h1]
    rcases ht with ⟨h2, rfl⟩ | ⟨h2, sg, rfl⟩
    · rw [if_pos h2]
      have hk := nextT_kind h2
      exact .inl ⟨_, _, rfl, hk.1, hk.2, rfl⟩
    · rw [if_neg h2]
      exact .inr ⟨sg, _, _, _, _, rfl, h2, rfl, .inl ⟨h2, rfl⟩⟩
end Go.Proofs.YtcbngdkekdhfeaaGreatDoor
namespace Go.Proofs.YtcbngdkekdhfeaaGreatDoor
open Go.RowKit Go.Shelf
set_option linter.unusedVariables false
set_option linter.unusedSimpArgs false
attribute [local go_sem] Oper.semAt_some

def rdL (l : List UInt8) (vl : Tok → Nat → Rd VT) (p : Nat) : Rd VT := match mustL l p with
  | .bad e q => .bad e q
  | .ok t p1 => vl t p1
def RdC (s : ByteArray) (h d : Nat) (vl : Tok → Nat → Rd VT) : Prop := ∀ (p : Nat) (u : World), p ≤ s.size → Calls Tryz.prog 27 #[.string s, .int .i64 (p : Int), .int .i64 (d : Int)] u fun e w' => An5 h u (rdL s.data.toList vl p) e w'
theorem box_pc {w w1 : World} {o : Obj} (hb : Below (w.alloc o).heap.size (w.alloc o) w1) : w.heap.size < w1.heap.size ∧ Below w.heap.size w w1 ∧ w1.heap[w.heap.size]? = (w.alloc o).heap[w.heap.size]? := by
  have h := hb.size
  rw [World.size_alloc] at h
  exact ⟨by omega, (below1 w o).trans (hb.mono (by simp)), hb.block _ (by simp)⟩

end Go.Proofs.YtcbngdkekdhfeaaGreatDoor
