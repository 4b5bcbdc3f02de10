import Derived.Test.YtfjmgccbpiolhaaGreatDoorM43
import Derived.Test.YtfjmgccbpiolhaaGreatDoorM41
import Derived.Test.YtfjmgccbpiolhaaGreatDoorM40
import Derived.BigQuiet
import Derived.Test.YtfjmgccbpiolhaaGreatDoorM35
import Derived.Test.YtfjmgccbpiolhaaGreatDoorM24
import Derived.Test.YtfjmgccbpiolhaaGreatDoorM36
import Derived.Test.YtfjmgccbpiolhaaGreatDoorM27
import Derived.Test.YtfjmgccbpiolhaaGreatDoorM17
namespace Go.Proofs.YtfjmgccbpiolhaaGreatDoor
open Go.RowKit Go.Shelf
set_option linter.unusedVariables false
set_option linter.unusedSimpArgs false
attribute [local go_sem] Oper.semAt_some

theorem folL_up {s : ByteArray} {vl : Tok → Nat → Rd VT} (hv : ValUp s vl) {p q : Nat} {T : VT} (hp : p ≤ s.size) (h : folL s.data.toList vl p = .ok (some T) q) : p < q ∧ q ≤ s.size := by
  unfold folL at h
  have hl : s.data.toList.length = s.size := size_lst s
  split at h
  · next h1 =>
    split at h
    · next h2 =>
      have h3 := nextT_up h1 h2
      have h4 := behL_ge (l := s.data.toList) cBl (by rw [hl]; exact hp)
      split at h
      · next T2 q2 hv2 =>
        injection h with e1 e2
        obtain ⟨c1, c2⟩ := hv _ _ _ _ (by rw [← hl]; exact h3.2) hv2
        omega
      · cases h
    · cases h
  · injection h with e1 e2
    cases e1
def eachL (l : List UInt8) (vl : Tok → Nat → Rd VT) : Nat → List VT → Nat → List VT × Nat × Nat
  | 0, xs, _ => (xs, 0, 0)
  | f + 1, xs, p => match folL l vl p with
    | .ok (some T) q => eachL l vl f (xs ++ [T]) q
    | .ok none _ => (xs, 0, 0)
    | .bad e q => (xs, e, q)
structure MnC (Vb lo h k : Nat) (io : Option Addr) (cap : Nat) (c : Nat → Fin 5 → Value) (xs : List VT) (w : World) : Prop where
  len : xs.length = k
  vl : Vb < lo
  ll : lo ≤ w.heap.size
  box : w.heap[Vb]? = some (.cells #[.slice io k cap] 22 (0, 0))
  own : w.ownsRow lo 49 5 (.slice io k cap) k (flat c k)
  trees : ∀ i, (hi : i < xs.length) → InD (rowD lo (.slice io k cap)) w (h + 1) xs[i] (.agg #[c i 0, c i 1, c i 2, c i 3, c i 4])
theorem MnC.keep {Vb lo H k cap : Nat} {io : Option Addr} {c : Nat → Fin 5 → Value} {xs : List VT} {w w' : World} (h : MnC Vb lo H k io cap c xs w) (hz : w.heap.size ≤ w'.heap.size) (hV : w'.heap[Vb]? = w.heap[Vb]?) (hs : ∀ b, lo ≤ b → b < w.heap.size → w'.heap[b]? = w.heap[b]?) : MnC Vb lo H k io cap c xs w' := by
  have h2 := h.ll
  exact ⟨h.len, h.vl, by omega, hV.trans h.box, own_keepR h.own (fun b hb hl => hs b (own_low h.own hb).1 hl), fun i hi => InD.keep hz (fun b hb hl => hs b hb.1 hl) (fun b hb _ => hb) (h.trees i hi)⟩
theorem MnC.up {Vb lo H k cap : Nat} {io : Option Addr} {c : Nat → Fin 5 → Value} {xs : List VT} {w w' : World} {T : VT} {x0 x1 x2 x3 x4 : Value} (h : MnC Vb lo H k io cap c xs w) (hT : InD (rowD lo (.slice io k cap)) w (H + 1) T (.agg #[x0, x1, x2, x3, x4])) (hm : M1R lo Vb k (.slice io k cap) (flat c k ++ [x0, x1, x2, x3, x4]) w w') :
    ∃ g cap', MnC Vb lo H (k + 1) (some ⟨g, 0, none⟩) cap' (cUp k c x0 x1 x2 x3 x4) (xs ++ [T]) w' := by
  obtain ⟨g, cap', hbox, hown, hat⟩ := hm.row
  have hlen := h.len
  have hvl := h.vl
  have hll := h.ll
  have hsz := hm.size
  have kk : ∀ b, rowD lo (.slice io k cap) b → b < w.heap.size → w'.heap[b]? = w.heap[b]? := fun b hb hl => hm.block b hl (by have := hb.1; omega) hb.2
  have dd : ∀ b, rowD lo (.slice io k cap) b → b < w.heap.size → rowD lo (.slice (some ⟨g, 0, none⟩) (k + 1) cap') b := fun b hb hl => ⟨hb.1, fun e => by
    simp [Value.ownBlock] at e
    subst e
    rcases hat with h1 | h1
    · exact hb.2 h1
    · omega⟩
  refine ⟨g, cap', by rw [List.length_append, hlen]; rfl, hvl, by omega, hbox, by rw [flat_cUp]; exact hown, fun i hi => ?_⟩
  rw [List.length_append] at hi
  have hi' : i < xs.length + 1 := hi
  by_cases hik : i < xs.length
  · rw [List.getElem_append_left hik]
    have e : cUp k c x0 x1 x2 x3 x4 i = c i := by unfold cUp; rw [if_neg (by omega)]
    rw [e]
    exact InD.keep hsz kk dd (h.trees i hik)
  · have e : i = xs.length := by omega
    subst e
    rw [List.getElem_append_right (Nat.le_refl _)]
    have e0 : cUp k c x0 x1 x2 x3 x4 xs.length 0 = x0 := by unfold cUp; rw [if_pos hlen]
    have e1 : cUp k c x0 x1 x2 x3 x4 xs.length 1 = x1 := by unfold cUp; rw [if_pos hlen]
    have e2 : cUp k c x0 x1 x2 x3 x4 xs.length 2 = x2 := by unfold cUp; rw [if_pos hlen]
    have e3 : cUp k c x0 x1 x2 x3 x4 xs.length 3 = x3 := by unfold cUp; rw [if_pos hlen]
    have e4 : cUp k c x0 x1 x2 x3 x4 xs.length 4 = x4 := by unfold cUp; rw [if_pos hlen]
    rw [e0, e1, e2, e3, e4]
    simp only [Nat.sub_self, List.getElem_cons_zero]
    exact InD.keep hsz kk dd hT
structure EM (Vb lo H : Nat) (xs : List VT) (s : ByteArray) (p : Nat) (w u : World) : Prop where
  mn : ∃ k io cap c, MnC Vb lo H k io cap c xs u
  inp : InAt u (w.heap.size + 1) s p
  err : ErrIn u
  res : u.heap[w.heap.size]? = some (.cells #[.int .i64 0, .int .i64 0] 102 (0, 0))
  bel : Bel Vb w.heap.size w u
  lo : lo = w.heap.size + 1 + 1
  vw : Vb < w.heap.size
  fit : xs.length ≤ p
theorem EM.but {Vb lo H : Nat} {xs : List VT} {s : ByteArray} {p q : Nat} {w u u' : World} (h : EM Vb lo H xs s p w u) (gI : w.heap.size + 1 ≠ 4) (hb : But (w.heap.size + 1) u u') (hi : InAt u' (w.heap.size + 1) s q) (hq : xs.length ≤ q) : EM Vb lo H xs s q w u' := by
  obtain ⟨k, io, cap, c, hm⟩ := h.mn
  have h1 := h.lo
  have h2 := h.vw
  have h3 := h.bel.size
  have h4 := h.inp.lt
  refine ⟨⟨k, io, cap, c, hm.keep hb.size (hb.block _ (by omega) (by omega)) (fun b g1 g2 => hb.block b g2 (by omega))⟩, hi, hb.errIn h.inp h.err gI, (hb.block _ (by omega) (by omega)).trans h.res, ⟨hb.os.trans h.bel.os, hb.tape.trans h.bel.tape, hb.output.trans h.bel.output, Nat.le_trans h3 hb.size, fun b g1 g2 => (hb.block b (by omega) (by omega)).trans (h.bel.block b g1 g2)⟩, h1, h2, hq⟩
theorem EM.low {Vb lo H : Nat} {xs : List VT} {s : ByteArray} {p : Nat} {w u u' : World} (h : EM Vb lo H xs s p w u) (gI : w.heap.size + 1 ≠ 4) (hb : Below u.heap.size u u') : EM Vb lo H xs s p w u' := h.but gI (But.of hb) (h.inp.keep hb) h.fit
theorem EM.up {Vb lo H k cap : Nat} {io : Option Addr} {c : Nat → Fin 5 → Value} {xs : List VT} {s : ByteArray} {p : Nat} {w u u' : World} {T : VT} {x0 x1 x2 x3 x4 : Value} (h : EM Vb lo H xs s p w u) (gE : 4 < w.heap.size) (gV : Vb ≠ 4) (hM : MnC Vb lo H k io cap c xs u) (hT : InD (rowD lo (.slice io k cap)) u (H + 1) T (.agg #[x0, x1, x2, x3, x4])) (hm : M1R lo Vb k (.slice io k cap) (flat c k ++ [x0, x1, x2, x3, x4]) u u') (hf : xs.length + 1 ≤ p) : EM Vb lo H (xs ++ [T]) s p w u' := by
  obtain ⟨g, cap', hM'⟩ := hM.up hT hm
  have h1 := h.lo
  have h2 := h.vw
  have h3 := h.bel.size
  have h4 := h.inp.lt
  have hz := hm.size
  have nb : ∀ b, b < lo → (Value.slice io k cap).ownBlock ≠ some b := fun b hb e => by have := (own_low hM.own e).1; omega
  have blk : ∀ b, b < lo → b ≠ Vb → u'.heap[b]? = u.heap[b]? := fun b hb hn => hm.block b (by omega) hn (nb b hb)
  refine ⟨⟨_, _, _, _, hM'⟩, (blk _ (by omega) (by omega)).trans h.inp, ?_, (blk _ (by omega) (by omega)).trans h.res, ⟨hm.os.trans h.bel.os, hm.tape.trans h.bel.tape, hm.output.trans h.bel.output, by omega, fun b g1 g2 => (blk b (by omega) g2).trans (h.bel.block b g1 g2)⟩, h1, h2, by rw [List.length_append]; exact hf⟩
  obtain ⟨ev, hc, hv⟩ := h.err
  refine ⟨ev, ?_, hv⟩
  have := blk _ (by omega) (fun e => gV e.symm)
  unfold World.cell? at hc ⊢
  rw [this]; exact hc
end Go.Proofs.YtfjmgccbpiolhaaGreatDoor
namespace Go.Proofs.YtfjmgccbpiolhaaGreatDoor
open Go.RowKit Go.Shelf
set_option linter.unusedVariables false
set_option linter.unusedSimpArgs false
attribute [local go_sem] Oper.semAt_some

structure EachR (Vb H : Nat) (R : List VT × Nat × Nat) (w : World) (e : Ending) (w' : World) : Prop where
  ret : e = .returned (fltV R.2.1 R.2.2)
  mn : ∃ k io cap c, MnC Vb (w.heap.size + 1 + 1) H k io cap c R.1 w'
  bel : Bel Vb w.heap.size w w'

theorem fbox_cells {w : World} {B : Nat} {t : TypeId} {y0 y1 : Value} (h : w.heap[B]? = some (.cells #[y0, y1] t (0, 0))) : w.cell? ⟨B, 0, none⟩ = some y0 ∧ w.cell? ⟨B, 1, none⟩ = some y1 ∧ w.frozen? ⟨B, 0, none⟩ = false ∧ w.frozen? ⟨B, 1, none⟩ = false := by
  refine ⟨?_, ?_, frozen_rowT h, frozen_rowT h⟩ <;> rw [cell_of_row _ _ _ _ _ _ h] <;> rfl
theorem each_end {u : World} {B : Nat} {t : TypeId} {y0 y1 : Value} (h : u.heap[B]? = some (.cells #[y0, y1] t (0, 0))) (a b : Value) (o1 o2 : Obj) :
    (((((u.setCell ⟨B, 0, none⟩ a).setCell ⟨B, 1, none⟩ b).alloc o1).alloc o2).cell? ⟨B, 0, none⟩ = some a ∧ ((((u.setCell ⟨B, 0, none⟩ a).setCell ⟨B, 1, none⟩ b).alloc o1).alloc o2).cell? ⟨B, 1, none⟩ = some b) ∧ But B u ((((u.setCell ⟨B, 0, none⟩ a).setCell ⟨B, 1, none⟩ b).alloc o1).alloc o2) := by
  have hl := (Array.getElem?_eq_some_iff.1 h).1
  have e1 := rset (i := 1) (c := #[a, y1]) b (rset (i := 0) (c := #[y0, y1]) a h)
  have e2 : ((((u.setCell ⟨B, 0, none⟩ a).setCell ⟨B, 1, none⟩ b).alloc o1).alloc o2).heap[B]? = some (.cells #[a, b] t (0, 0)) := (Below.heap_alloc _ _ _ (by simp; omega)).trans ((Below.heap_alloc _ _ _ (by simp; omega)).trans e1)
  obtain ⟨c0, c1, _⟩ := fbox_cells e2
  refine ⟨⟨c0, c1⟩, rfl, rfl, rfl, by simp; omega, fun k hk hn => ?_⟩
  rw [Below.heap_alloc _ _ _ (by simp; omega), Below.heap_alloc _ _ _ (by simp; omega), Below.heap_setCell _ _ _ _ hn, Below.heap_setCell _ _ _ _ hn]

set_option maxRecDepth 100000 in
set_option maxHeartbeats 3200000 in
theorem w_each (s : ByteArray) (ss : s.size ≤ 1073741824) (H Vb : Nat) (vl : Tok → Nat → Rd VT) (HV : ∀ I, I ≠ 4 → ValOk s I H vl) (HU : ValUp s vl) (htx : ∀ p, (nextT s.data.toList (behL s.data.toList p cBl)).text.length ≤ 140737488355328) (w : World) (hV : w.heap[Vb]? = some (.cells #[.slice none 0 0] 22 (0, 0))) (gV : Vb ≠ 4) (hE : ErrIn w) :
    Calls Tryz.prog 54 #[.string s, .func (.func 55) #[] #[.pointer (some ⟨Vb, 0, none⟩)]] w fun e w' => EachR Vb H (eachL s.data.toList vl (s.size + 1) [] 0) w e w' := by
  have gE : 4 < w.heap.size := by
    obtain ⟨ev, hc, _⟩ := hE
    exact World.block_lt_of_cell? w _ hc
  have hVl : Vb < w.heap.size := (Array.getElem?_eq_some_iff.1 hV).1
  have gI : w.heap.size + 1 ≠ 4 := by omega
  have HC := Hid.mk (fun (u : World) (p : Nat) (hp : p ≤ s.size) (hu : InAt u (w.heap.size + 1) s p) (hEu : ErrIn u) => w_caught_following s ss (w.heap.size + 1) p H hp vl (HV _ gI) (htx p) u hu hEu gI)
  have HU' := Hid.mk HU
  have hent := enters_of Tryz.func55 (by kernel_rfl) rfl
  have hmf : ∀ (fn : Fn) (first cap : Array Value) (w : World), (Instr.makeFunc fn first cap).run Tryz.prog w = .ok (.func fn first cap) w := fun _ _ _ _ => rfl
  obtain ⟨R, hR⟩ : ∃ R, eachL s.data.toList vl (s.size + 1) [] 0 = R := ⟨_, rfl⟩
  rw [hR]
  have HRR := Hid.mk hR
  have HS0 : Hid (EM Vb (w.heap.size + 1 + 1) H [] s 0 w ((w.alloc (.cells #[.int .i64 0, .int .i64 0] 102)).alloc (.cells #[.string s, .int .i64 0] 100))) := by
    have hb0 : Below w.heap.size w ((w.alloc (.cells #[.int .i64 0, .int .i64 0] 102)).alloc (.cells #[.string s, .int .i64 0] 100)) := (below1 w _).alloc (by simp) _
    refine ⟨⟨0, none, 0, fun _ _ => undef, rfl, by omega, by simp, (hb0.block _ hVl).trans hV, World.ownsRow_nil _ _ _ _, fun i hi => absurd hi (Nat.not_lt_zero i)⟩, ?_, hE.keep hb0, ?_, ⟨hb0.os, hb0.tape, hb0.output, hb0.size, fun b g1 _ => hb0.block b g1⟩, rfl, hVl, Nat.zero_le _⟩
    · have := heap_alloc_new (w.alloc (.cells #[.int .i64 0, .int .i64 0] 102)) (.cells #[.string s, .int .i64 0] 100)
      rw [World.size_alloc] at this
      exact this
    · exact (Below.heap_alloc _ _ _ (by simp)).trans (heap_alloc_new w _)
  have HG := Hid.mk (And.intro gI (And.intro gE gV))
  clear hR HV HU htx hV hE gI gV
  go_enter Tryz.func54, Tryz.ntmps54
  go_wp2_with fail
  go_loopw [7] (fun a wr => ∃ (f : Nat) (xs : List VT) (p : Nat), p ≤ s.size ∧ Hid (s.size < p + f) ∧ Hid (EM Vb (w.heap.size + 1 + 1) H xs s p w wr) ∧ Hid (eachL s.data.toList vl f xs p = R)) (fun _ wr => s.size + 1 - posOf (w.heap.size + 1) wr)
  case atStart => exact ⟨_, [], 0, Nat.zero_le _, (by show s.size < 0 + (s.size + 1); omega), HS0, HRR.out⟩
  case round =>
    clear HS0
    obtain ⟨f, xs, p, hp, HF, HS, HL⟩ := hrel
    obtain ⟨f, rfl⟩ : ∃ f', f = f' + 1 := ⟨f - 1, by have := HF.out; omega⟩
    have hLL := HL.out
    unfold eachL at hLL
    have hpos := HS.out.inp.pos
    have HPos := Hid.mk hpos
    clear hpos HL
    have HLL := Hid.mk hLL
    clear hLL
    go_wp2_with fail
    refine (HC.out _ p hp HS.out.inp HS.out.err).mono ?_
    rintro e w1 ⟨hbut, hm⟩
    have hres := HS.out.res
    have hLL := HLL.out
    have hw1 : w.heap.size + 1 < w1.heap.size := by have h1 := HS.out.inp.lt; have h2 := hbut.size; omega
    have hw2 : w.heap.size < w1.heap.size := by omega
    have hr1 : w1.heap[w.heap.size]? = some (.cells #[.int .i64 0, .int .i64 0] 102 (0, 0)) := (hbut.block _ (by have := HS.out.inp.lt; omega) (by omega)).trans hres
    have HBe : Hid (∀ u, But w.heap.size w1 u → Bel Vb w.heap.size w u ∧ ∃ k io cap c, MnC Vb (w.heap.size + 1 + 1) H k io cap c xs u) := fun u hu => by
      obtain ⟨k, io, cap, c, hM⟩ := HS.out.mn
      have hl := HS.out.bel
      have hi := HS.out.inp.lt
      have hz1 := hbut.size
      have hz2 := hu.size
      exact ⟨⟨hu.os.trans (hbut.os.trans hl.os), hu.tape.trans (hbut.tape.trans hl.tape), hu.output.trans (hbut.output.trans hl.output), by have := hl.size; omega, fun b g1 g2 => (hu.block b (by omega) (by omega)).trans ((hbut.block b (by omega) (by omega)).trans (hl.block b g1 g2))⟩, k, io, cap, c, hM.keep (by omega) ((hu.block _ (by omega) (by omega)).trans (hbut.block _ (by omega) (by omega))) (fun b g1 g2 => (hu.block b (by omega) (by omega)).trans (hbut.block b g2 (by omega)))⟩
    cases hfo : folL s.data.toList vl p with
    | bad er q =>
      rw [hfo] at hm hLL
      have hm' : e = .returned (.tuple #[v0V, .bool false, fltV er q]) := hm
      subst hm'
      have HR2 : Hid (R = (xs, er, q)) := hLL.symm
      clear hLL hfo hbut HLL
      unfold v0V fltV
      obtain ⟨rc0, rc1, rf0, rf1⟩ := fbox_cells hr1
      have HR1 := Hid.mk hr1
      clear hr1 hres
      go_wp2_with fail
      obtain ⟨⟨z1, z2⟩, z3⟩ := each_end HR1.out (.int .i64 (er : Int)) (.int .i64 (q : Int)) (.cells #[.int .i64 0, .string ⟨#[]⟩, .string ⟨#[]⟩, .slice none 0 0, .slice none 0 0] 49) (.cells #[.int .i64 (er : Int), .int .i64 (q : Int)] 102)
      refine bodyPost_ret (v := .agg #[.int .i64 (er : Int), .int .i64 (q : Int)]) (by simp [results, Tryz.results54, go_sem, z1, z2]) rfl ?_
      obtain ⟨y1, y2⟩ := HBe.out _ z3
      rw [HR2.out]
      exact ⟨rfl, y2, y1⟩
    | ok o q =>
      cases o with
      | none =>
        rw [hfo] at hm hLL
        obtain ⟨rfl, hin⟩ := hm
        have HR2 : Hid (R = (xs, 0, 0)) := hLL.symm
        clear hLL hfo hbut HLL hin
        unfold v0V fltV
        obtain ⟨rc0, rc1, rf0, rf1⟩ := fbox_cells hr1
        have HR1 := Hid.mk hr1
        clear hr1 hres
        go_wp2_with fail
        obtain ⟨⟨z1, z2⟩, z3⟩ := each_end HR1.out (.int .i64 0) (.int .i64 0) (.cells #[.int .i64 0, .string ⟨#[]⟩, .string ⟨#[]⟩, .slice none 0 0, .slice none 0 0] 49) (.cells #[.int .i64 0, .int .i64 0] 102)
        refine bodyPost_ret (v := .agg #[.int .i64 0, .int .i64 0]) (by simp [results, Tryz.results54, go_sem, z1, z2]) rfl ?_
        obtain ⟨y1, y2⟩ := HBe.out _ z3
        rw [HR2.out]
        exact ⟨rfl, y2, y1⟩
      | some T =>
        rw [hfo] at hm hLL
        obtain ⟨⟨v, rfl, hF⟩, hin⟩ := hm
        obtain ⟨f1, f2⟩ := folL_up HU'.out hp hfo
        have HL2 : Hid (eachL s.data.toList vl f (xs ++ [T]) q = R) := hLL
        have hfit := HS.out.fit
        have HS1 := Hid.mk (HS.out.but HG.out.1 hbut hin (by omega))
        obtain ⟨jo, jc, ko, kc, rfl, hrest⟩ := id hF
        clear hrest
        have HS2 := Hid.mk ((HS1.out.low HG.out.1 (below1 w1 (.cells #[.int .i64 T.kind, .string T.num, .string T.text, .slice jo T.items.length jc, .slice ko T.keys.length kc] 49))).low HG.out.1 (below1 _ (.cells #[.int .i64 0, .int .i64 0] 102)))
        obtain ⟨k, io, cap, c, hM⟩ := HS.out.mn
        have hlo := HS.out.lo
        have hiw := HS.out.inp.lt
        have hz1 := hbut.size
        have hb2 : Below w1.heap.size w1 ((w1.alloc (.cells #[.int .i64 T.kind, .string T.num, .string T.text, .slice jo T.items.length jc, .slice ko T.keys.length kc] 49)).alloc (.cells #[.int .i64 0, .int .i64 0] 102)) := (below1 w1 _).alloc (by simp) _
        have hM2 := hM.keep (w' := (w1.alloc (.cells #[.int .i64 T.kind, .string T.num, .string T.text, .slice jo T.items.length jc, .slice ko T.keys.length kc] 49)).alloc (.cells #[.int .i64 0, .int .i64 0] 102)) (by have := hb2.size; omega) ((hb2.block _ (by omega)).trans (hbut.block _ (by omega) (by omega))) (fun b g1 g2 => (hb2.block b (by omega)).trans (hbut.block b g2 (by omega)))
        have HT : Hid (InD (rowD (w.heap.size + 1 + 1) (.slice io k cap)) ((w1.alloc (.cells #[.int .i64 T.kind, .string T.num, .string T.text, .slice jo T.items.length jc, .slice ko T.keys.length kc] 49)).alloc (.cells #[.int .i64 0, .int .i64 0] 102)) (H + 1) T (.agg #[.int .i64 T.kind, .string T.num, .string T.text, .slice jo T.items.length jc, .slice ko T.keys.length kc])) := InD.keep hb2.size (fun b _ hl => hb2.block b hl) (fun b hb _ => ⟨by have : wr.heap.size ≤ b := hb; omega, fun e => by have h1 := (own_low hM.own e).2; have h2 : wr.heap.size ≤ b := hb; omega⟩) (InD.iff.2 hF)
        have HY := Hid.mk (w_many1 (w.heap.size + 1 + 1) Vb k io cap c T.kind T.num T.text jo T.items.length jc ko T.keys.length kc _ (by have := hM.len; omega) hM2.ll hM2.vl hM2.box hM2.own)
        have HMM := Hid.mk hM2
        have HQ := Hid.mk (And.intro f1 (And.intro f2 hfit))
        clear hLL hfo hbut HLL hin hF hM hM2 hb2 hlo hiw hr1 hres f1 f2 hfit HBe
        generalize T.kind = tk at *
        generalize T.num = tn at *
        generalize T.text = tt at *
        generalize T.items.length = ti at *
        generalize T.keys.length = tq at *
        unfold fltV
        go_wp2_with fail
        refine HY.out.mono ?_
        rintro e w3 ⟨rfl, hm3⟩
        have HE3 := Hid.mk (HS2.out.up HG.out.2.1 HG.out.2.2 HMM.out HT.out hm3 (by have := HQ.out; omega))
        clear hm3
        have hpos3 := HE3.out.inp.pos
        have HPos3 := Hid.mk hpos3
        clear hpos3
        go_wp2_with fail
        go_roundw
        case rel => exact ⟨f, xs ++ [T], q, HQ.out.2.1, (by show s.size < q + f; have := HF.out; have := HQ.out; omega), HE3, HL2⟩
        case measure =>
          have := HPos.out
          have := HPos3.out
          have := HQ.out
          omega
end Go.Proofs.YtfjmgccbpiolhaaGreatDoor
namespace Go.Proofs.YtfjmgccbpiolhaaGreatDoor
open Go.RowKit Go.Shelf
set_option linter.unusedVariables false
set_option linter.unusedSimpArgs false
attribute [local go_sem] Oper.semAt_some

def ManyR (H : Nat) (R : List VT × Nat × Nat) (w : World) (e : Ending) (w' : World) : Prop := Below w.heap.size w w' ∧
  ((R.2.1 = 0 ∧ ∃ k io cap c, e = .returned (.tuple #[.slice io k cap, .int .i64 0, .int .i64 0]) ∧ MnC w.heap.size (w.heap.size + 1 + 1 + 1) H k io cap c R.1 w') ∨
   (R.2.1 ≠ 0 ∧ e = .returned (.tuple #[.slice none 0 0, .int .i64 (R.2.1 : Int), .int .i64 (R.2.2 : Int)])))

set_option maxRecDepth 100000 in
set_option maxHeartbeats 3200000 in
theorem w_Many (s : ByteArray) (ss : s.size ≤ 1073741824) (H : Nat) (vl : Tok → Nat → Rd VT) (HV : ∀ I, I ≠ 4 → ValOk s I H vl) (HU : ValUp s vl) (htx : ∀ p, (nextT s.data.toList (behL s.data.toList p cBl)).text.length ≤ 140737488355328) (w : World) (hE : ErrIn w) :
    Calls Tryz.prog 20 #[.string s] w fun e w' => ManyR H (eachL s.data.toList vl (s.size + 1) [] 0) w e w' := by
  have gE : 4 < w.heap.size := by
    obtain ⟨ev, hc, _⟩ := hE
    exact World.block_lt_of_cell? w _ hc
  have hn := heap_alloc_new w (.cells #[.slice none 0 0] 22)
  have HEa := Hid.mk (w_each s ss H w.heap.size vl HV HU htx (w.alloc (.cells #[.slice none 0 0] 22)) hn (by omega) (hE.keep (below1 w _)))
  have hmf : ∀ (fn : Fn) (first cap : Array Value) (w : World), (Instr.makeFunc fn first cap).run Tryz.prog w = .ok (.func fn first cap) w := fun _ _ _ _ => rfl
  obtain ⟨R, hR⟩ : ∃ R, eachL s.data.toList vl (s.size + 1) [] 0 = R := ⟨_, rfl⟩
  rw [hR] at HEa ⊢
  clear hR HV HU htx hE hn
  go_enter Tryz.func20, Tryz.ntmps20
  go_wp2_with fail
  refine HEa.out.mono ?_
  rintro e w1 ⟨rfl, ⟨k, io, cap, c, hM⟩, hbel⟩
  obtain ⟨xs, er, q⟩ := R
  have hsz : w.heap.size < w1.heap.size := by have := hbel.size; simp at this; omega
  have hB : Below w.heap.size w w1 := ⟨hbel.os, hbel.tape, hbel.output, by omega, fun b hb => (hbel.block b (by simp; omega) (by omega)).trans (Below.heap_alloc _ _ _ hb)⟩
  have hcb : w1.cell? ⟨w.heap.size, 0, none⟩ = some (.slice io k cap) := by rw [cell_of_row _ _ _ _ _ _ hM.box]; rfl
  rw [World.size_alloc] at hM
  have HN := Hid.mk (And.intro hB hM)
  clear hB hM hbel HEa
  unfold fltV
  dsimp only
  by_cases h0 : er = 0
  · subst h0
    go_wp2_with fail
    refine bodyPost_ret (v := .tuple #[.slice io k cap, .int .i64 0, .int .i64 0]) (by simp [results, Tryz.results20, go_sem]) rfl ?_
    exact ⟨HN.out.1.alloc HN.out.1.size _, .inl ⟨rfl, k, io, cap, c, rfl, HN.out.2.keep (by simp) (Below.heap_alloc _ _ _ (by omega)) (fun b _ hl => Below.heap_alloc _ _ _ hl)⟩⟩
  · have hb : (((er : Nat) : Int) == 0) = false := by rw [beq_eq_false_iff_ne]; omega
    have H0 := Hid.mk h0
    clear h0
    go_wp2_with fail
    go_quiet (fail)
    generalize hwd : (w1.alloc (.cells #[.int .i64 (er : Int), .int .i64 (q : Int)] 102)).drewN nq = W
    have HW : Hid (Below w.heap.size w W) := by
      show Below _ _ _
      rw [← hwd]
      have hx := HN.out.1.alloc HN.out.1.size (.cells #[.int .i64 (er : Int), .int .i64 (q : Int)] 102)
      exact ⟨hx.os, hx.tape, hx.output, hx.size, hx.block⟩
    clear hwd
    go_wp2_with fail
    refine bodyPost_ret (v := .tuple #[.slice none 0 0, .int .i64 (er : Int), .int .i64 (q : Int)]) (by simp [results, Tryz.results20, go_sem]) rfl ?_
    exact ⟨HW.out, .inr ⟨H0.out, rfl⟩⟩
end Go.Proofs.YtfjmgccbpiolhaaGreatDoor
namespace Go.Proofs.YtfjmgccbpiolhaaGreatDoor
open Go.RowKit Go.Shelf
set_option linter.unusedVariables false
set_option linter.unusedSimpArgs false
attribute [local go_sem] Oper.semAt_some

def vL (s : ByteArray) : Tok → Nat → Rd VT := valL s.data.toList (obL s.data.toList) 64 1
theorem vL_ok {s : ByteArray} (ss : s.size ≤ 1073741824) (I : Nat) (gI : I ≠ 4) : ValOk s I 64 (vL s) := fun t p u h1 h2 h3 h4 => w_vals ss gI t p u h1 h2 h3 h4
theorem vL_up {s : ByteArray} (ss : s.size ≤ 1073741824) : ValUp s (vL s) := by
  have h := valL_up (objOk ss (4 + 1) (by omega)) 64 1
  exact h
theorem must_tx {s : ByteArray} (ss : s.size ≤ 1073741824) (p : Nat) (t : Tok) (q : Nat) (h : mustL s.data.toList p = .ok t q) : t.text.length ≤ 140737488355328 := by
  have h1 := mustL_text h
  have h2 : s.data.toList.length = s.size := size_lst s
  omega
theorem w_One5 (s : ByteArray) (ss : s.size ≤ 1073741824) (w : World) (hE : ErrIn w) : Calls Tryz.prog 17 #[.string s] w fun e w' => OneR 64 w (onlL s.data.toList (vL s) 0) e w' :=
  w_One s ss 64 (vL s) (fun I gI => vL_ok ss I gI) (fun t p T q hp h => (vL_up ss t p T q hp h).2) (fun p t q h => must_tx ss p t q h) w hE
theorem nextT_out {l : List UInt8} {q : Nat} (h : ¬ q < l.length) : nextT l q = ⟨0, q, 0, [], 40⟩ := by
  have e : l.getD q 0 = 0 := by simp [List.getD, List.getElem?_eq_none (Nat.le_of_not_lt h)]
  unfold nextT
  rw [e, if_neg (by decide), if_neg (by decide), if_neg (by decide), if_neg (by decide)]
theorem next_tx {s : ByteArray} (ss : s.size ≤ 1073741824) (q : Nat) : (nextT s.data.toList q).text.length ≤ 140737488355328 := by
  have h2 : s.data.toList.length = s.size := size_lst s
  by_cases h : q < s.data.toList.length
  · have h1 := nextT_text h
    omega
  · rw [nextT_out h]
    exact Nat.zero_le _
theorem w_Many5 (s : ByteArray) (ss : s.size ≤ 1073741824) (w : World) (hE : ErrIn w) : Calls Tryz.prog 20 #[.string s] w fun e w' => ManyR 64 (eachL s.data.toList (vL s) (s.size + 1) [] 0) w e w' :=
  w_Many s ss 64 (vL s) (fun I gI => vL_ok ss I gI) (vL_up ss) (fun p => next_tx ss _) w hE
end Go.Proofs.YtfjmgccbpiolhaaGreatDoor
namespace Go.Proofs.YtfjmgccbpiolhaaGreatDoor
open Go.RowKit Go.Shelf
set_option linter.unusedVariables false
set_option linter.unusedSimpArgs false

theorem qd_low : ∀ n, n < 128 → ((qd n).length = 2 ∧ shortL (qd n) = some n ∧ (qd n).getD 0 0 = 92) ∨ ((qd n).length = 6 ∧ shortL (qd n) = none ∧ numL (qd n) = some n ∧ (qd n).getD 0 0 = 92) ∨ (qd n = enc n ∧ 32 ≤ n ∧ n ≠ 34 ∧ n ≠ 92) := by decide +kernel
theorem qd_high {n : Nat} (h : 128 ≤ n) : qd n = enc n := by
  unfold qd
  have hs : sgn n = none := by
    unfold sgn
    rw [if_neg (by omega), if_neg (by omega), if_neg (by omega), if_neg (by omega), if_neg (by omega), if_neg (by omega), if_neg (by omega)]
  rw [hs]
  simp only []
  rw [if_neg (by omega)]
theorem qd_cases (n : Nat) : ((qd n).length = 2 ∧ shortL (qd n) = some n ∧ (qd n).getD 0 0 = 92 ∧ n < 128) ∨ ((qd n).length = 6 ∧ shortL (qd n) = none ∧ numL (qd n) = some n ∧ (qd n).getD 0 0 = 92 ∧ n < 128) ∨ (qd n = enc n ∧ 32 ≤ n ∧ n ≠ 34 ∧ n ≠ 92) := by
  by_cases h : n < 128
  · rcases qd_low n h with ⟨a, b, c⟩ | ⟨a, b, c, d⟩ | h2
    · exact .inl ⟨a, b, c, h⟩
    · exact .inr (.inl ⟨a, b, c, d, h⟩)
    · exact .inr (.inr h2)
  · exact .inr (.inr ⟨qd_high (by omega), by omega, by omega, by omega⟩)
theorem drop_at (x b : List UInt8) : (x ++ b).drop x.length = b := by rw [List.drop_left' rfl]
theorem dec_head {a r : List UInt8} (h : a.getD 0 0 = 92) (hl : 0 < a.length) : (decL (a ++ r)).1 = 92 ∧ strayL (a ++ r) = false := by
  cases a with
  | nil => simp at hl
  | cons c a =>
    have hc : c = 92 := by simpa [List.getD] using h
    subst hc
    have hd : decL ((92 : UInt8) :: (a ++ r)) = (92, 1) := dec1 _ rfl (by decide)
    rw [List.cons_append]
    refine ⟨by rw [hd], ?_⟩
    unfold strayL
    rw [hd]
    rfl
theorem unq_qb : ∀ (zs : List Nat) (x y : List UInt8) (acc : List Nat), (∀ z ∈ zs, isR z) → unqL (x ++ (qb zs ++ 34 :: y)) x.length acc = (acc ++ zs, x.length + (qb zs).length + 1, 0)
  | [], x, y, acc, _ => by
    have hl : x.length < (x ++ (qb [] ++ 34 :: y)).length := by simp [qb]
    have hd : decL ((34 : UInt8) :: y) = (34, 1) := dec1 _ rfl (by decide)
    rw [unqL, dif_pos hl, drop_at]
    show (if (decL ((34 : UInt8) :: y)).1 = 34 then _ else _) = _
    rw [hd, if_pos rfl, List.append_nil]
    rfl
  | z :: zs, x, y, acc, hz => by
    have hzR := hz z (List.mem_cons_self ..)
    have e : x ++ (qb (z :: zs) ++ 34 :: y) = (x ++ qd z) ++ (qb zs ++ 34 :: y) := by rw [qb_cons]; simp
    have ih := unq_qb zs (x ++ qd z) y (acc ++ [z]) (fun w hw => hz w (List.mem_cons_of_mem _ hw))
    rw [← e] at ih
    have hq := (qd_len z).1
    have hl : x.length < (x ++ (qb (z :: zs) ++ 34 :: y)).length := by rw [e]; simp only [List.length_append]; omega
    have hdr : (x ++ (qb (z :: zs) ++ 34 :: y)).drop x.length = qd z ++ (qb zs ++ 34 :: y) := by rw [drop_at, qb_cons]; simp
    have fin : (acc ++ [z] ++ zs, (x ++ qd z).length + (qb zs).length + 1, 0) = (acc ++ z :: zs, x.length + (qb (z :: zs)).length + 1, 0) := by
      rw [qb_cons, List.length_append, List.length_append]
      simp
      omega
    rw [fin] at ih
    rw [List.length_append] at ih
    generalize hL : x ++ (qb (z :: zs) ++ 34 :: y) = L at *
    rcases qd_cases z with ⟨h1, h2, h3, h4⟩ | ⟨h1, h2, h3, h4, h5⟩ | ⟨h1, h2, h3, h4⟩
    · obtain ⟨d1, d2⟩ := dec_head (a := qd z) (r := qb zs ++ 34 :: y) h3 (by omega)
      have hesc : escL L x.length = (z, x.length + 2, 0) := escL_short (by rw [hdr, shortL_app _ (by omega)]; exact h2)
      rw [unqL, dif_pos hl, hdr, d1, d2, if_neg (by decide), if_neg (by decide), if_neg (by decide), if_pos rfl, hesc, if_pos rfl, if_pos (by show x.length < x.length + 2; omega)]
      rw [h1] at ih
      exact ih
    · obtain ⟨d1, d2⟩ := dec_head (a := qd z) (r := qb zs ++ 34 :: y) h4 (by omega)
      have hesc : escL L x.length = (z, x.length + 6, 0) := escL_one (by rw [hdr, shortL_app _ (by omega)]; exact h2) (by rw [hdr, numL_app _ (by omega)]; exact h3) (by omega)
      rw [unqL, dif_pos hl, hdr, d1, d2, if_neg (by decide), if_neg (by decide), if_neg (by decide), if_pos rfl, hesc, if_pos rfl, if_pos (by show x.length < x.length + 6; omega)]
      rw [h1] at ih
      exact ih
    · have hd := dec_enc z hzR (qb zs ++ 34 :: y)
      have hst : strayL (enc z ++ (qb zs ++ 34 :: y)) = false := by
        unfold strayL
        rw [hd]
        by_cases h : z = 65533
        · subst h; rw [pre_err]; rfl
        · have : (z == 65533) = false := by rw [beq_eq_false_iff_ne]; exact h
          show ((z == 65533) && _) = false
          rw [this]; rfl
      have he : 0 < (enc z).length := by rw [← h1]; omega
      rw [h1] at hdr ih
      rw [unqL, dif_pos hl, hdr, hst, hd]
      rw [if_neg (show ¬ z = 34 from h3), if_neg (show ¬ z < 32 by omega), if_neg (by decide), if_neg (show ¬ z = 92 from h4), if_pos he]
      exact ih
def wL (l : List UInt8) : List UInt8 := 34 :: (qb (runes l) ++ [34])
theorem next_lit (l y : List UInt8) (h : okB l = true) : nextT (wL l ++ y) 0 = ⟨11, 0, (wL l).length, l, 0⟩ := by
  have e : txt (runes l) = l := by unfold okB at h; simpa using h
  have hu := unq_qb (runes l) [34] y [] (runes_isR l)
  have el : wL l ++ y = [34] ++ (qb (runes l) ++ 34 :: y) := by simp [wL]
  have hlen : (wL l).length = 1 + (qb (runes l)).length + 1 := by simp [wL]; omega
  rw [el]
  unfold nextT
  rw [show ([34] ++ (qb (runes l) ++ 34 :: y) : List UInt8).getD 0 0 = 34 from rfl, if_neg (by decide), if_pos rfl]
  unfold litT
  rw [show (0 + 1 : Nat) = ([34] : List UInt8).length from rfl, hu, if_pos rfl, hlen, List.nil_append, e]
  rfl
def Sp (y : List UInt8) : Prop := ∀ c r, y = c :: r → cWd.contains c = false ∧ cNm.contains c = false
theorem nextT_sp {a y : List UInt8} (hy : Sp y) {p : Nat} (hp : p < a.length) (h : (nextT a p).err = 0) : nextT (a ++ y) p = nextT a p := by
  cases y with
  | nil => rw [List.append_nil]
  | cons c b =>
    obtain ⟨hc1, hc2⟩ := hy c b rfl
    have w1 : wordT (a ++ c :: b) p = wordT a p := by
      have hb := behL_app (a := a) (b := b) (c := c) (p := p) (cs := cWd) (by omega) hc1
      have hl := (behL_ge (l := a) (p := p) cWd (by omega)).2
      unfold wordT
      rw [hb, cut_app hl]
    have w2 : numeralT (a ++ c :: b) p = numeralT a p := by
      have hb := behL_app (a := a) (b := b) (c := c) (p := p) (cs := cNm) (by omega) hc2
      have hl := (behL_ge (l := a) (p := p) cNm (by omega)).2
      unfold numeralT
      rw [hb, cut_app hl]
    unfold nextT at h ⊢
    rw [getD_app hp, w1, w2]
    split
    · rfl
    · next h1 =>
      rw [if_neg h1] at h
      split
      · next h2 =>
        rw [if_pos h2] at h
        exact litT_app _ h
      · rfl
theorem must_tok {x tk y : List UInt8} {k : Nat} {tx : List UInt8} (hb : cBl.contains (tk.getD 0 0) = false) (hne : 0 < tk.length) (hn : nextT (tk ++ y) 0 = ⟨k, 0, tk.length, tx, 0⟩) : mustL (x ++ (tk ++ y)) x.length = .ok ⟨k, x.length, x.length + tk.length, tx, 0⟩ (x.length + tk.length) := by
  have hbe : behL (x ++ (tk ++ y)) x.length cBl = x.length := by
    cases tk with
    | nil => simp at hne
    | cons c r =>
      have hc : cBl.contains c = false := by simpa [List.getD] using hb
      unfold behL
      rw [drop_at, List.cons_append, List.dropWhile_cons, if_neg (by rw [hc]; decide)]
      simp
  have hlt : 0 < (tk ++ y).length := by rw [List.length_append]; omega
  have hnx := nextT_pre (x := x) hlt
  rw [Nat.add_zero, hn] at hnx
  unfold shiftT at hnx
  rw [if_pos rfl] at hnx
  unfold mustL
  rw [hbe, hnx, if_pos (by rw [List.length_append]; omega), if_pos rfl]
  rfl
theorem must_skip {x b y : List UInt8} (hb : ∀ c ∈ b, cBl.contains c = true) : mustL (x ++ (b ++ y)) x.length = mustL (x ++ (b ++ y)) (x.length + b.length) := by
  have h1 : behL (x ++ (b ++ y)) x.length cBl = x.length + b.length + behL y 0 cBl := by
    have e := behL_pre (x := x) (b := b ++ y) (p := 0) (cs := cBl) (Nat.zero_le _)
    rw [Nat.add_zero] at e
    have h := dropWhile_le (cBl.contains ·) y
    rw [e]
    unfold behL
    rw [List.drop_zero, List.drop_zero, dropw_all (cBl.contains ·) b y hb, List.length_append]
    omega
  have h2 : behL (x ++ (b ++ y)) (x.length + b.length) cBl = x.length + b.length + behL y 0 cBl := by
    have e := behL_pre (x := x ++ b) (b := y) (p := 0) (cs := cBl) (Nat.zero_le _)
    rw [Nat.add_zero, List.length_append, List.append_assoc] at e
    exact e
  unfold mustL
  rw [h1, h2]
theorem next_mark (c : UInt8) (y : List UInt8) (hm : cMk.contains c = true) : nextT ([c] ++ y) 0 = ⟨(1 + Lib.indexByte cMk c).toNat, 0, 1, [], 0⟩ := by
  unfold nextT
  rw [show ([c] ++ y : List UInt8).getD 0 0 = c from rfl, if_pos hm]
theorem must_mark {x y b : List UInt8} (c : UInt8) (hb : ∀ c ∈ b, cBl.contains c = true) (hc : cBl.contains c = false) (hm : cMk.contains c = true) : mustL (x ++ (b ++ c :: y)) x.length = .ok ⟨(1 + Lib.indexByte cMk c).toNat, x.length + b.length, x.length + b.length + 1, [], 0⟩ (x.length + b.length + 1) := by
  rw [must_skip hb]
  have := must_tok (x := x ++ b) (tk := [c]) (y := y) (by simpa [List.getD] using hc) (by simp) (next_mark c y hm)
  rw [List.length_append, List.append_assoc] at this
  exact this
theorem val_leaf {l : List UInt8} {ob : (Tok → Nat → Rd VT) → Nat → Rd VT} (f d : Nat) {t : Tok} {p : Nat} (h3 : t.kind ≠ 3) (h1 : t.kind ≠ 1) : valL l ob f d t p = leafL t p := by
  cases f <;> (unfold valL valAt; rw [if_neg h3, if_neg h1])
end Go.Proofs.YtfjmgccbpiolhaaGreatDoor
namespace Go.Proofs.YtfjmgccbpiolhaaGreatDoor
open Go.RowKit Go.Shelf
set_option linter.unusedVariables false
set_option linter.unusedSimpArgs false

def Reads (l : List UInt8) (vl : Tok → Nat → Rd VT) (tx : List UInt8) (T : VT) : Prop := ∀ x y, l = x ++ (tx ++ y) → Sp y → ∃ t p1, mustL l x.length = .ok t p1 ∧ t.kind ≠ 2 ∧ t.kind ≠ 4 ∧ vl t p1 = .ok T (x.length + tx.length)
def tlW (c : UInt8) (ln1 ln0 : List UInt8) : List (List UInt8) → List UInt8
  | [] => ln0 ++ [c]
  | e :: es => 44 :: (ln1 ++ (e ++ tlW c ln1 ln0 es))
def rwT (o c : UInt8) (ln1 ln0 : List UInt8) : List (List UInt8) → List UInt8
  | [] => [o, c]
  | e :: es => o :: (ln1 ++ (e ++ tlW c ln1 ln0 es))
theorem tl_sp {c : UInt8} {ln1 ln0 : List UInt8} (hc : cWd.contains c = false ∧ cNm.contains c = false) (h0 : ∀ b ∈ ln0, cBl.contains b = true) (hw : ∀ b, cBl.contains b = true → cWd.contains b = false ∧ cNm.contains b = false) (es : List (List UInt8)) (y : List UInt8) : Sp (tlW c ln1 ln0 es ++ y) := by
  intro b r e
  cases es with
  | nil =>
    cases ln0 with
    | nil => simp only [tlW, List.nil_append, List.cons_append] at e; injection e with e1 _; rw [← e1]; exact hc
    | cons a ln0 => simp only [tlW, List.cons_append] at e; injection e with e1 _; rw [← e1]; exact hw a (h0 a (by simp))
  | cons a es => simp only [tlW, List.cons_append] at e; injection e with e1 _; rw [← e1]; exact ⟨by decide +kernel, by decide +kernel⟩
theorem tl_len (c : UInt8) (ln1 ln0 : List UInt8) : ∀ es : List (List UInt8), es.length < (tlW c ln1 ln0 es).length
  | [] => by simp [tlW]
  | e :: es => by have := tl_len c ln1 ln0 es; simp only [tlW, List.length_cons, List.length_append]; omega
theorem kind_c4 : (1 + Lib.indexByte cMk 93).toNat = 4 := by decide
theorem kind_c2 : (1 + Lib.indexByte cMk 125).toNat = 2 := by decide
theorem kind_c3 : (1 + Lib.indexByte cMk 91).toNat = 3 := by decide
theorem kind_c1 : (1 + Lib.indexByte cMk 123).toNat = 1 := by decide
theorem kind_c6 : (1 + Lib.indexByte cMk 44).toNat = 6 := by decide
theorem kind_c5 : (1 + Lib.indexByte cMk 58).toNat = 5 := by decide
def PartR {σ : Type} (l : List UInt8) (pt : σ → Tok → Nat → Rd σ) (x0 : σ) (e : List UInt8) (x1 : σ) : Prop := ∀ x y, l = x ++ (e ++ y) → Sp y → ∃ t p1, mustL l x.length = .ok t p1 ∧ t.kind ≠ 2 ∧ t.kind ≠ 4 ∧ pt x0 t p1 = .ok x1 (x.length + e.length)
inductive PartsR {σ : Type} (l : List UInt8) (pt : σ → Tok → Nat → Rd σ) : σ → List (List UInt8) → σ → Prop
  | nil (x : σ) : PartsR l pt x [] x
  | cons {x0 x1 x2 : σ} {e : List UInt8} {es : List (List UInt8)} : PartR l pt x0 e x1 → PartsR l pt x1 es x2 → PartsR l pt x0 (e :: es) x2
theorem loop_parts {σ : Type} {l : List UInt8} {pt : σ → Tok → Nat → Rd σ} {c : UInt8} {cl : Nat} {ln1 ln0 : List UInt8} (hcl : (c = 93 ∧ cl = 4) ∨ (c = 125 ∧ cl = 2)) (h1 : ∀ b ∈ ln1, cBl.contains b = true) (h0 : ∀ b ∈ ln0, cBl.contains b = true) (hw : ∀ b, cBl.contains b = true → cWd.contains b = false ∧ cNm.contains b = false) {x0 x1 : σ} {es : List (List UInt8)} (hP : PartsR l pt x0 es x1) :
    ∀ (n : Nat) (x y : List UInt8), l = x ++ (tlW c ln1 ln0 es ++ y) → es.length < n → loopL l cl pt n x0 x.length = .ok x1 (x.length + (tlW c ln1 ln0 es).length) := by
  have hc : cWd.contains c = false ∧ cNm.contains c = false := by rcases hcl with ⟨rfl, _⟩ | ⟨rfl, _⟩ <;> exact ⟨by decide +kernel, by decide +kernel⟩
  induction hP with
  | nil x0 =>
    intro n x y hl hn
    obtain ⟨n, rfl⟩ : ∃ m, n = m + 1 := ⟨n - 1, by omega⟩
    have hl' : l = x ++ (ln0 ++ c :: y) := by rw [hl]; simp [tlW]
    have hm : mustL l x.length = .ok ⟨cl, x.length + ln0.length, x.length + ln0.length + 1, [], 0⟩ (x.length + ln0.length + 1) := by
      rw [hl']
      rcases hcl with ⟨rfl, rfl⟩ | ⟨rfl, rfl⟩
      · have := must_mark (x := x) (y := y) (b := ln0) 93 h0 (by decide) (by decide)
        rw [kind_c4] at this; exact this
      · have := must_mark (x := x) (y := y) (b := ln0) 125 h0 (by decide) (by decide)
        rw [kind_c2] at this; exact this
    rw [loopL, hm]
    dsimp only
    rw [if_pos rfl]
    simp [tlW]
    omega
  | cons hp hps ih =>
    rename_i x0 x1 x2 e es
    intro n x y hl hn
    rw [List.length_cons] at hn
    obtain ⟨n, rfl⟩ : ∃ m, n = m + 1 := ⟨n - 1, by omega⟩
    have hl' : l = x ++ ([] ++ 44 :: (ln1 ++ (e ++ (tlW c ln1 ln0 es ++ y)))) := by rw [hl]; simp [tlW]
    have hm : mustL l x.length = .ok ⟨6, x.length + 0, x.length + 0 + 1, [], 0⟩ (x.length + 0 + 1) := by
      rw [hl']
      have := must_mark (x := x) (y := ln1 ++ (e ++ (tlW c ln1 ln0 es ++ y))) (b := []) 44 (fun c hc => by cases hc) (by decide) (by decide)
      rw [kind_c6] at this; exact this
    have hl2 : l = (x ++ [44]) ++ (ln1 ++ (e ++ (tlW c ln1 ln0 es ++ y))) := by rw [hl']; simp
    have hl3 : l = (x ++ 44 :: ln1) ++ (e ++ (tlW c ln1 ln0 es ++ y)) := by rw [hl']; simp
    have hl4 : l = (x ++ 44 :: (ln1 ++ e)) ++ (tlW c ln1 ln0 es ++ y) := by rw [hl']; simp
    obtain ⟨t, p1, m1, k2, k4, hpt⟩ := hp _ _ hl3 (tl_sp hc h0 hw es y)
    have hsk := must_skip (x := x ++ [44]) (b := ln1) (y := e ++ (tlW c ln1 ln0 es ++ y)) h1
    rw [← hl2] at hsk
    have hlen : (x ++ [44]).length + ln1.length = (x ++ 44 :: ln1).length := by simp; omega
    rw [hlen, m1] at hsk
    have hx1 : x.length + 0 + 1 = (x ++ [44]).length := by simp
    have hr := ih n _ _ hl4 (by omega)
    rw [loopL, hm]
    dsimp only
    have hcl6 : ¬ 6 = cl := by rcases hcl with ⟨_, rfl⟩ | ⟨_, rfl⟩ <;> omega
    rw [if_neg hcl6, if_pos rfl, hx1, hsk]
    dsimp only
    rw [hpt]
    dsimp only
    have hq : (x ++ 44 :: ln1).length + e.length = (x ++ 44 :: (ln1 ++ e)).length := by simp; omega
    rw [hq, hr]
    simp [tlW]
    omega
theorem row_parts {σ : Type} {l : List UInt8} {pt : σ → Tok → Nat → Rd σ} {o c : UInt8} {cl : Nat} {ln1 ln0 : List UInt8} (hcl : (c = 93 ∧ cl = 4) ∨ (c = 125 ∧ cl = 2)) (h1 : ∀ b ∈ ln1, cBl.contains b = true) (h0 : ∀ b ∈ ln0, cBl.contains b = true) (hw : ∀ b, cBl.contains b = true → cWd.contains b = false ∧ cNm.contains b = false) {x0 x1 : σ} {es : List (List UInt8)} (hP : PartsR l pt x0 es x1)
    (x y : List UInt8) (hl : l = x ++ (rwT o c ln1 ln0 es ++ y)) : rowL l cl pt x0 (x.length + 1) = .ok x1 (x.length + (rwT o c ln1 ln0 es).length) := by
  have hc : cWd.contains c = false ∧ cNm.contains c = false := by rcases hcl with ⟨rfl, _⟩ | ⟨rfl, _⟩ <;> exact ⟨by decide +kernel, by decide +kernel⟩
  have hxo : x.length + 1 = (x ++ [o]).length := by simp
  cases hP with
  | nil =>
    have hl' : l = (x ++ [o]) ++ ([] ++ c :: y) := by rw [hl]; simp [rwT]
    have hm : mustL l (x ++ [o]).length = .ok ⟨cl, (x ++ [o]).length + 0, (x ++ [o]).length + 0 + 1, [], 0⟩ ((x ++ [o]).length + 0 + 1) := by
      rw [hl']
      rcases hcl with ⟨rfl, rfl⟩ | ⟨rfl, rfl⟩
      · have := must_mark (x := x ++ [o]) (y := y) (b := []) 93 (fun c hc => by cases hc) (by decide) (by decide)
        rw [kind_c4] at this; exact this
      · have := must_mark (x := x ++ [o]) (y := y) (b := []) 125 (fun c hc => by cases hc) (by decide) (by decide)
        rw [kind_c2] at this; exact this
    unfold rowL
    rw [hxo, hm]
    dsimp only
    rw [if_pos rfl]
    simp [rwT]
  | cons hp hps =>
    rename_i x1' e es
    have hl2 : l = (x ++ [o]) ++ (ln1 ++ (e ++ (tlW c ln1 ln0 es ++ y))) := by rw [hl]; simp [rwT]
    have hl3 : l = (x ++ o :: ln1) ++ (e ++ (tlW c ln1 ln0 es ++ y)) := by rw [hl]; simp [rwT]
    have hl4 : l = (x ++ o :: (ln1 ++ e)) ++ (tlW c ln1 ln0 es ++ y) := by rw [hl]; simp [rwT]
    obtain ⟨t, p1, m1, k2, k4, hpt⟩ := hp _ _ hl3 (tl_sp hc h0 hw es y)
    have hsk := must_skip (x := x ++ [o]) (b := ln1) (y := e ++ (tlW c ln1 ln0 es ++ y)) h1
    rw [← hl2] at hsk
    have hlen : (x ++ [o]).length + ln1.length = (x ++ o :: ln1).length := by simp; omega
    rw [hlen, m1] at hsk
    have hn : es.length < l.length + 1 := by
      have h3 := tl_len c ln1 ln0 es
      have h4 : (tlW c ln1 ln0 es).length ≤ l.length := by rw [hl4]; simp only [List.length_append]; omega
      omega
    have hr := loop_parts hcl h1 h0 hw hps (l.length + 1) _ _ hl4 hn
    have hkc : ¬ t.kind = cl := by rcases hcl with ⟨_, rfl⟩ | ⟨_, rfl⟩ <;> assumption
    unfold rowL
    rw [hxo, hsk]
    dsimp only
    rw [if_neg hkc, hpt]
    dsimp only
    have hq : (x ++ o :: ln1).length + e.length = (x ++ o :: (ln1 ++ e)).length := by simp; omega
    rw [hq, hr]
    simp [rwT]
    omega
theorem parts_arr {l : List UInt8} {vl : Tok → Nat → Rd VT} : ∀ (ps : List (List UInt8 × VT)) (xs : List VT), (∀ p ∈ ps, Reads l vl p.1 p.2) → PartsR l (aPt vl) xs (ps.map (·.1)) (xs ++ ps.map (·.2))
  | [], xs, _ => by rw [List.map_nil, List.map_nil, List.append_nil]; exact .nil xs
  | p :: ps, xs, h => by
    have ih := parts_arr ps (xs ++ [p.2]) (fun q hq => h q (List.mem_cons_of_mem _ hq))
    rw [List.map_cons, List.map_cons]
    refine .cons (x1 := xs ++ [p.2]) ?_ (by simpa using ih)
    intro x y hl hy
    obtain ⟨t, p1, m1, k2, k4, hv⟩ := h p (List.mem_cons_self ..) x y hl hy
    refine ⟨t, p1, m1, k2, k4, ?_⟩
    unfold aPt
    rw [hv]
structure FldT where
  key : List UInt8
  tx : List UInt8
  val : VT
def FldT.text (cl : List UInt8) (f : FldT) : List UInt8 := wL f.key ++ (58 :: cl ++ f.tx)
theorem parts_obj {l : List UInt8} {vl : Tok → Nat → Rd VT} {cl : List UInt8} (hcl : ∀ b ∈ cl, cBl.contains b = true) : ∀ (ps : List FldT) (fs : List (List UInt8 × VT)), (∀ p ∈ ps, Reads l vl p.tx p.val ∧ okB p.key = true) → (ps.map (·.key)).Nodup → (∀ p ∈ ps, ∀ f ∈ fs, f.1 ≠ p.key) → PartsR l (oPt l vl) fs (ps.map (FldT.text cl)) (fs ++ ps.map fun p => (p.key, p.val))
  | [], fs, _, _, _ => by rw [List.map_nil, List.map_nil, List.append_nil]; exact .nil fs
  | p :: ps, fs, h, hd, hf => by
    rw [List.map_cons, List.nodup_cons] at hd
    have ih := parts_obj hcl ps (fs ++ [(p.key, p.val)]) (fun q hq => h q (List.mem_cons_of_mem _ hq)) hd.2 (by
      intro q hq f hfm
      rcases List.mem_append.1 hfm with h1 | h1
      · exact hf q (List.mem_cons_of_mem _ hq) f h1
      · rw [List.mem_singleton.1 h1]
        intro e
        exact hd.1 (List.mem_map.2 ⟨q, hq, e.symm⟩))
    rw [List.map_cons, List.map_cons]
    refine .cons (x1 := fs ++ [(p.key, p.val)]) ?_ (by simpa using ih)
    obtain ⟨hr, hk⟩ := h p (List.mem_cons_self ..)
    intro x y hl hy
    have hl1 : l = x ++ (wL p.key ++ (58 :: (cl ++ (p.tx ++ y)))) := by rw [hl]; simp [FldT.text]
    have m1 := must_tok (x := x) (tk := wL p.key) (y := 58 :: (cl ++ (p.tx ++ y))) (by simp [wL, List.getD]; decide) (by simp [wL]) (next_lit p.key _ hk)
    rw [← hl1] at m1
    refine ⟨_, _, m1, by show 11 ≠ 2; omega, by show 11 ≠ 4; omega, ?_⟩
    have hl2 : l = (x ++ wL p.key) ++ ([] ++ 58 :: (cl ++ (p.tx ++ y))) := by rw [hl1]; simp
    have m2 := must_mark (x := x ++ wL p.key) (y := cl ++ (p.tx ++ y)) (b := []) 58 (fun c hc => by cases hc) (by decide) (by decide)
    rw [← hl2, kind_c5] at m2
    have hl3 : l = (x ++ (wL p.key ++ [58])) ++ (cl ++ (p.tx ++ y)) := by rw [hl1]; simp
    have hl4 : l = (x ++ (wL p.key ++ 58 :: cl)) ++ (p.tx ++ y) := by rw [hl1]; simp
    obtain ⟨t, p1, m3, k2, k4, hv⟩ := hr _ _ hl4 hy
    have hsk := must_skip (x := x ++ (wL p.key ++ [58])) (b := cl) (y := p.tx ++ y) hcl
    rw [← hl3] at hsk
    have hlen : (x ++ (wL p.key ++ [58])).length + cl.length = (x ++ (wL p.key ++ 58 :: cl)).length := by simp; omega
    rw [hlen, m3] at hsk
    have hany : fs.any (fun f => f.1 == p.key) = false := by
      rw [List.any_eq_false]
      intro f hfm
      have := hf p (List.mem_cons_self ..) f hfm
      simpa using this
    unfold oPt
    dsimp only
    rw [if_pos rfl, if_neg (by rw [hany]; decide)]
    have e1 : x.length + (wL p.key).length = (x ++ wL p.key).length := by simp
    have e2 : (x ++ wL p.key).length + ([] : List UInt8).length + 1 = (x ++ (wL p.key ++ [58])).length := by simp; omega
    rw [e1, m2]
    dsimp only
    rw [if_pos rfl, e2, hsk]
    dsimp only
    rw [hv]
    dsimp only
    have e3 : (x ++ (wL p.key ++ 58 :: cl)).length + p.tx.length = x.length + (FldT.text cl p).length := by simp [FldT.text]; omega
    rw [e3]
theorem insF_end (f : List UInt8 × VT) : ∀ a : List (List UInt8 × VT), (∀ g ∈ a, g.1 < f.1) → insF f a = a ++ [f]
  | [], _ => rfl
  | g :: r, h => by
    unfold insF
    rw [if_pos (h g (List.mem_cons_self ..)), insF_end f r (fun x hx => h x (List.mem_cons_of_mem _ hx))]
    rfl
theorem foldF_ris : ∀ (fs a : List (List UInt8 × VT)), RisF (a ++ fs) → fs.foldl (fun a f => insF f a) a = a ++ fs
  | [], a, _ => by simp
  | f :: fs, a, h => by
    have h1 : ∀ g ∈ a, g.1 < f.1 := by
      intro g hg
      exact (List.pairwise_append.1 h).2.2 g hg f (List.mem_cons_self ..)
    show fs.foldl (fun a f => insF f a) (insF f a) = _
    rw [insF_end f a h1, foldF_ris fs (a ++ [f]) (by simpa using h)]
    simp
theorem objS_id {fs : List (List UInt8 × VT)} (h : RisF fs) : objS fs = fs := by
  unfold objS
  rw [foldF_ris fs [] (by simpa using h)]
  rfl
theorem obj_read {l : List UInt8} {vl : Tok → Nat → Rd VT} {o : UInt8} {ln1 ln0 cl : List UInt8} (hcl : ∀ b ∈ cl, cBl.contains b = true) (h1 : ∀ b ∈ ln1, cBl.contains b = true) (h0 : ∀ b ∈ ln0, cBl.contains b = true) (hw : ∀ b, cBl.contains b = true → cWd.contains b = false ∧ cNm.contains b = false) (ps : List FldT) (h : ∀ p ∈ ps, Reads l vl p.tx p.val ∧ okB p.key = true) (hr : RisF (ps.map fun p => (p.key, p.val)))
    (x y : List UInt8) (hl : l = x ++ (rwT o 125 ln1 ln0 (ps.map (FldT.text cl)) ++ y)) : obL l vl (x.length + 1) = .ok (.mk 6 .empty .empty (ps.map (·.val)) (ps.map fun p => bT p.key)) (x.length + (rwT o 125 ln1 ln0 (ps.map (FldT.text cl))).length) := by
  have hnd : (ps.map (·.key)).Nodup := by
    have h2 : (ps.map (·.key)).Pairwise (· < ·) := by
      have := hr
      unfold RisF at this
      rw [List.pairwise_map] at this ⊢
      exact this
    exact h2.imp (fun {a b} hab e => by subst e; exact List.lt_irrefl _ hab)
  have hp := parts_obj hcl ps [] h hnd (fun p _ f hf => by cases hf)
  have hrow := row_parts (.inr ⟨rfl, rfl⟩) h1 h0 hw hp x y hl
  unfold obL
  rw [hrow]
  dsimp only
  rw [List.nil_append]
  unfold objT
  rw [objS_id hr, List.map_map, List.map_map]
  rfl
theorem arr_read {l : List UInt8} {vl : Tok → Nat → Rd VT} {o : UInt8} {ln1 ln0 : List UInt8} (h1 : ∀ b ∈ ln1, cBl.contains b = true) (h0 : ∀ b ∈ ln0, cBl.contains b = true) (hw : ∀ b, cBl.contains b = true → cWd.contains b = false ∧ cNm.contains b = false) (ps : List (List UInt8 × VT)) (h : ∀ p ∈ ps, Reads l vl p.1 p.2)
    (x y : List UInt8) (hl : l = x ++ (rwT o 93 ln1 ln0 (ps.map (·.1)) ++ y)) : arrL l vl (x.length + 1) = .ok (.mk 5 .empty .empty (ps.map (·.2)) []) (x.length + (rwT o 93 ln1 ln0 (ps.map (·.1))).length) := by
  have hp := parts_arr ps [] h
  have hrow := row_parts (.inl ⟨rfl, rfl⟩) h1 h0 hw hp x y hl
  unfold arrL
  rw [hrow]
  dsimp only
  rw [List.nil_append]
end Go.Proofs.YtfjmgccbpiolhaaGreatDoor
namespace Go.Proofs.YtfjmgccbpiolhaaGreatDoor
open Go.RowKit Go.Shelf
set_option linter.unusedVariables false
set_option linter.unusedSimpArgs false
theorem all_dig (d : List UInt8) : d.all Pl.isDig = d.all (cDg.contains ·) := by
  congr 1
  funext c
  rw [digit_tab]
  unfold Pl.isDig
  rw [Bool.decide_and]

theorem unq_isR {l : List UInt8} : ∀ (n p : Nat) (acc : List Nat), l.length - p ≤ n → (∀ z ∈ acc, isR z) → (unqL l p acc).2.2 = 0 → ∀ z ∈ (unqL l p acc).1, isR z := by
  intro n
  induction n with
  | zero =>
    intro p acc hn ha h
    rw [unqL, dif_neg (by omega)] at h
    cases h
  | succ n ih =>
    intro p acc hn ha h
    by_cases hp : p < l.length
    · have hne : l.drop p ≠ [] := fun e => by have := congrArg List.length e; rw [List.length_drop] at this; simp at this; omega
      rw [unqL_step acc hp] at h ⊢
      split
      · exact ha
      · next h34 =>
        rw [if_neg h34] at h
        split
        · next h32 => rw [if_pos h32] at h; cases h
        · next h32 =>
          rw [if_neg h32] at h
          split
          · next hs => rw [if_pos hs] at h; cases h
          · next hs =>
            rw [if_neg hs] at h
            split
            · next h92 =>
              rw [if_pos h92] at h
              split
              · next he =>
                rw [if_pos he] at h
                obtain ⟨g1, g2, g3, _⟩ := escL_ok he
                rw [if_pos g1] at h ⊢
                refine ih _ _ (by omega) (fun z hz => ?_) h
                rcases List.mem_append.1 hz with hz | hz
                · exact ha z hz
                · rcases List.mem_singleton.1 hz with rfl; exact g3
              · next he =>
                rw [if_neg he] at h
                exact absurd h he
            · next h92 =>
              rw [if_neg h92] at h
              split
              · next h0 =>
                rw [if_pos h0] at h
                refine ih _ _ (by omega) (fun z hz => ?_) h
                rcases List.mem_append.1 hz with hz | hz
                · exact ha z hz
                · rcases List.mem_singleton.1 hz with rfl; exact decL_isR _ hne
              · next h0 =>
                intro z hz
                cases hz
    · rw [unqL, dif_neg hp] at h
      cases h
theorem dig_nm {c : UInt8} (h : Pl.isDig c = true) : cNm.contains c = true := by
  have h1 := all_dig [c]
  simp only [List.all_cons, List.all_nil, Bool.and_true] at h1
  rw [h] at h1
  have h2 : c ∈ cDg := by simpa using h1.symm
  have h3 : ∀ x ∈ cDg, cNm.contains x = true := by decide
  exact h3 c h2
theorem dig_dm {c : UInt8} (h : Pl.isDig c = true) : cDm.contains c = true := by
  have h1 := all_dig [c]
  simp only [List.all_cons, List.all_nil, Bool.and_true] at h1
  rw [h] at h1
  have h2 : c ∈ cDg := by simpa using h1.symm
  have h3 : ∀ x ∈ cDg, cDm.contains x = true := by decide
  exact h3 c h2
theorem toNat45 {c : UInt8} (h : c.toNat = 45) : c = 45 := UInt8.toNat_inj.1 h
structure NumR (l : List UInt8) : Prop where
  ne : ∃ c r, l = c :: r ∧ cDm.contains c = true
  tok : numeralT l 0 = ⟨10, 0, l.length, l, 0⟩
theorem dropWhile_all {p : UInt8 → Bool} : ∀ l : List UInt8, (∀ c ∈ l, p c = true) → l.dropWhile p = []
  | [], _ => rfl
  | c :: r, h => by rw [List.dropWhile_cons, if_pos (h c List.mem_cons_self)]; exact dropWhile_all r (fun x hx => h x (List.mem_cons_of_mem _ hx))
theorem numR_of {l : List UInt8} (h : Pl.formed l = true) : NumR l := by
  have hh : l = [48] ∨ Pl.plainB (Pl.body l) = true := by
    unfold Pl.formed at h
    rcases Bool.or_eq_true _ _ ▸ h with h | h
    · exact .inl (by simpa using h)
    · exact .inr h
  have hfacts : (∃ c r, l = c :: r ∧ cDm.contains c = true) ∧ (∀ c ∈ l, cNm.contains c = true) ∧ l ≠ [45, 48] := by
    rcases hh with rfl | hp
    · exact ⟨⟨48, [], rfl, by decide⟩, by decide, by decide⟩
    · cases l with
      | nil => exact absurd hp (by decide)
      | cons c r =>
        unfold Pl.body at hp
        rw [Pl.neg_cons] at hp
        by_cases hc : c.toNat = 45
        · rw [if_pos (by simpa using hc)] at hp
          have e45 := toNat45 hc
          subst e45
          simp only [List.tail_cons] at hp
          cases r with
          | nil => exact absurd hp (by decide)
          | cons d r =>
            unfold Pl.plainB at hp
            rw [Bool.and_eq_true] at hp
            obtain ⟨h1, h2⟩ := hp
            rw [List.all_eq_true] at h2
            refine ⟨⟨45, d :: r, rfl, by decide⟩, ?_, ?_⟩
            · intro x hx
              rcases List.mem_cons.1 hx with rfl | hx
              · decide
              · exact dig_nm (h2 x hx)
            · intro e
              injection e with _ e
              injection e with e _
              subst e
              exact absurd h1 (by decide)
        · rw [if_neg (by simpa using hc)] at hp
          unfold Pl.plainB at hp
          rw [Bool.and_eq_true] at hp
          obtain ⟨h1, h2⟩ := hp
          rw [List.all_eq_true] at h2
          refine ⟨⟨c, r, rfl, dig_dm (h2 c List.mem_cons_self)⟩, fun x hx => dig_nm (h2 x hx), fun e => ?_⟩
          injection e with e _
          subst e
          exact hc (by decide)
  obtain ⟨hne, hall, h45⟩ := hfacts
  have hb : behL l 0 cNm = l.length := by
    unfold behL
    rw [List.drop_zero, dropWhile_all l hall]
    rfl
  have hc : cut l 0 l.length = l := by unfold cut; simp
  have hn : numT l = l := by unfold numT; rw [if_neg h45]
  refine ⟨hne, ?_⟩
  unfold numeralT
  rw [hb, hc, hn, if_pos h]
structure TokOk (M : Nat) (t : Tok) : Prop where
  num : t.kind = 10 → NumR t.text
  txt_ : t.kind = 11 → okB t.text = true
  len : t.text.length ≤ M
theorem must_tokOk {l : List UInt8} {p q : Nat} {t : Tok} (h : mustL l p = .ok t q) : TokOk (4 * l.length) t := by
  have hlen := mustL_text h
  refine ⟨?_, ?_, hlen⟩
  all_goals
    intro hk
    unfold mustL at h
    split at h
    · split at h
      · next h1 h2 =>
        injection h with e1 e2
        subst e1
        unfold nextT at h2 hk ⊢
        split
        · next hc =>
          rw [if_pos hc] at hk
          exfalso
          have e : (1 + Lib.indexByte cMk (l.getD (behL l p cBl) 0)).toNat = mkN (l.getD (behL l p cBl) 0) := by unfold mkN; rw [if_pos hc]
          have h3 : mkN (l.getD (behL l p cBl) 0) ≤ 6 := by
            rw [mk_tab]
            repeat' split
            all_goals omega
          have hk' : (1 + Lib.indexByte cMk (l.getD (behL l p cBl) 0)).toNat = _ := hk
          omega
        · next hc =>
          rw [if_neg hc] at h2 hk
          split
          · next h34 =>
            rw [if_pos h34] at h2 hk
            unfold litT at h2 hk ⊢
            split
            · next h0 =>
              first
              | (rw [if_pos h0] at hk; exact absurd hk (by show ¬ 11 = 10; omega))
              | exact ok_txt _ (unq_isR _ _ [] (Nat.le_refl _) (fun z hz => by cases hz) h0)
            · next h0 => rw [if_neg h0] at h2; exact absurd h2 h0
          · next h34 =>
            rw [if_neg h34] at h2 hk
            split
            · next hl =>
              rw [if_pos hl] at h2 hk
              unfold wordT at hk
              exfalso
              repeat' split at hk
              all_goals (have hk' := hk; simp at hk')
            · next hl =>
              rw [if_neg hl] at h2 hk
              split
              · next hd =>
                rw [if_pos hd] at h2 hk
                unfold numeralT at h2 hk ⊢
                split
                · next h0 =>
                  first
                  | exact numR_of h0
                  | (rw [if_pos h0] at hk; exact absurd hk (by show ¬ 10 = 11; omega))
                · next h0 => rw [if_neg h0] at h2; cases h2
              · next hd => rw [if_neg hd] at h2; cases h2
      · cases h
    · cases h
def LeafR (M : Nat) (T : VT) : Prop := T.items = [] ∧ T.keys = [] ∧ ((0 ≤ T.kind ∧ T.kind ≤ 2 ∧ T.num = .empty ∧ T.text = .empty) ∨ (T.kind = 3 ∧ NumR T.num.data.toList ∧ T.num.size ≤ M ∧ T.text = .empty) ∨ (T.kind = 4 ∧ T.num = .empty ∧ okB T.text.data.toList = true ∧ T.text.size ≤ M))
def RisK : List ByteArray → Prop
  | [] => True
  | [_] => True
  | a :: b :: r => a.data.toList < b.data.toList ∧ RisK (b :: r)
def NodeR (M : Nat) (P : VT → Prop) (T : VT) : Prop := T.num = .empty ∧ T.text = .empty ∧ (∀ x ∈ T.items, P x) ∧ ((T.kind = 5 ∧ T.keys = []) ∨ (T.kind = 6 ∧ T.keys.length = T.items.length ∧ (∀ k ∈ T.keys, okB k.data.toList = true ∧ k.size ≤ M) ∧ RisK T.keys))
def Rt (M : Nat) : Nat → VT → Prop
  | 0, T => LeafR M T
  | d + 1, T => LeafR M T ∨ NodeR M (Rt M d) T
theorem loop_inv {σ : Type} {l : List UInt8} {cl : Nat} {pt : σ → Tok → Nat → Rd σ} {I : σ → Prop} (P : ∀ x t p y q, I x → TokOk (4 * l.length) t → pt x t p = .ok y q → I y) : ∀ (n : Nat) (x y : σ) (p q : Nat), I x → loopL l cl pt n x p = .ok y q → I y := by
  intro n
  induction n with
  | zero => intro x y p q _ h; cases h
  | succ n ih =>
    intro x y p q hI h
    rw [loopL] at h
    cases e1 : mustL l p with
    | bad e2 z => rw [e1] at h; cases h
    | ok t q1 =>
      rw [e1] at h
      dsimp only at h
      split at h
      · injection h with h1 h2; rw [← h1]; exact hI
      · split at h
        · cases e2 : mustL l q1 with
          | bad e3 z => rw [e2] at h; cases h
          | ok t2 q2 =>
            rw [e2] at h
            dsimp only at h
            cases e3 : pt x t2 q2 with
            | bad e4 z => rw [e3] at h; cases h
            | ok y2 q3 =>
              rw [e3] at h
              exact ih y2 y q3 q (P _ _ _ _ _ hI (must_tokOk e2) e3) h
        · cases h
theorem row_inv {σ : Type} {l : List UInt8} {cl : Nat} {pt : σ → Tok → Nat → Rd σ} {I : σ → Prop} (P : ∀ x t p y q, I x → TokOk (4 * l.length) t → pt x t p = .ok y q → I y) {x y : σ} {p q : Nat} (hI : I x) (h : rowL l cl pt x p = .ok y q) : I y := by
  unfold rowL at h
  cases e1 : mustL l p with
  | bad e2 z => rw [e1] at h; cases h
  | ok t q1 =>
    rw [e1] at h
    dsimp only at h
    split at h
    · injection h with h1 h2; rw [← h1]; exact hI
    · cases e3 : pt x t q1 with
      | bad e4 z => rw [e3] at h; cases h
      | ok y2 q3 =>
        rw [e3] at h
        exact loop_inv P _ y2 y q3 q (P _ _ _ _ _ hI (must_tokOk e1) e3) h
theorem risK_of : ∀ l : List (List UInt8 × VT), RisF l → RisK (l.map fun f => bT f.1)
  | [], _ => trivial
  | [_], _ => trivial
  | a :: b :: r, h => by
    obtain ⟨h1, h2⟩ := List.pairwise_cons.1 h
    exact ⟨by show (bT a.1).data.toList < (bT b.1).data.toList; simpa [bT] using h1 b List.mem_cons_self, risK_of (b :: r) h2⟩
theorem val_rt {l : List UInt8} : ∀ (f d : Nat) (t : Tok) (p : Nat) (T : VT) (q : Nat), TokOk (4 * l.length) t → valL l (obL l) f d t p = .ok T q → Rt (4 * l.length) f T := by
  have leaf : ∀ (t : Tok) (p : Nat) (T : VT) (q : Nat), TokOk (4 * l.length) t → leafL t p = .ok T q → LeafR (4 * l.length) T := by
    intro t p T q ht h
    unfold leafL at h
    split at h
    · injection h with h1 h2; subst h1; exact ⟨rfl, rfl, .inl ⟨by show (0 : Int) ≤ 0; omega, by show (0 : Int) ≤ 2; omega, rfl, rfl⟩⟩
    split at h
    · injection h with h1 h2; subst h1; exact ⟨rfl, rfl, .inl ⟨by show (0 : Int) ≤ 1; omega, by show (1 : Int) ≤ 2; omega, rfl, rfl⟩⟩
    split at h
    · injection h with h1 h2; subst h1; exact ⟨rfl, rfl, .inl ⟨by show (0 : Int) ≤ 2; omega, by show (2 : Int) ≤ 2; omega, rfl, rfl⟩⟩
    split at h
    · next hk =>
      injection h with h1 h2; subst h1
      have hn := ht.num hk
      have hl := ht.len
      exact ⟨rfl, rfl, .inr (.inl ⟨rfl, by show NumR (bT t.text).data.toList; simpa [bT] using hn, by show t.text.toArray.size ≤ _; simpa using hl, rfl⟩)⟩
    split at h
    · next hk =>
      injection h with h1 h2; subst h1
      have hn := ht.txt_ hk
      have hl := ht.len
      exact ⟨rfl, rfl, .inr (.inr ⟨rfl, rfl, by show okB (bT t.text).data.toList = true; simpa [bT] using hn, by show t.text.toArray.size ≤ _; simpa using hl⟩)⟩
    · cases h
  intro f
  induction f with
  | zero =>
    intro d t p T q ht h
    unfold valL valAt at h
    split at h
    · split at h <;> cases h
    · split at h
      · split at h <;> cases h
      · exact leaf t p T q ht h
  | succ f ih =>
    intro d t p T q ht h
    have ihv := ih (d + 1)
    unfold valL valAt at h
    generalize hvl : valL l (obL l) f (d + 1) = vl at ihv h
    split at h
    · split at h
      · unfold arrL at h
        cases hr : rowL l 4 (aPt vl) [] p with
        | bad e2 z => rw [hr] at h; cases h
        | ok xs q3 =>
          rw [hr] at h
          injection h with h1 h2
          subst h1
          have hI := row_inv (I := fun xs => ∀ x ∈ xs, Rt (4 * l.length) f x) (fun x t p y q hx ht hp => by
            unfold aPt at hp
            split at hp
            · next v q2 hv =>
              injection hp with e1 e2
              subst e1
              intro z hz
              rcases List.mem_append.1 hz with hz | hz
              · exact hx z hz
              · rcases List.mem_singleton.1 hz with rfl; exact ihv _ _ _ _ ht hv
            · cases hp) (fun x hx => by cases hx) hr
          exact .inr ⟨rfl, rfl, hI, .inl ⟨rfl, rfl⟩⟩
      · cases h
    · split at h
      · split at h
        · unfold obL at h
          cases hr : rowL l 2 (oPt l vl) [] p with
          | bad e2 z => rw [hr] at h; cases h
          | ok fs q3 =>
            rw [hr] at h
            injection h with h1 h2
            subst h1
            have hI := row_inv (I := fun fs => DisF fs ∧ ∀ g ∈ fs, okB g.1 = true ∧ g.1.length ≤ 4 * l.length ∧ Rt (4 * l.length) f g.2) (fun fs t p y q hx ht hp => by
              unfold oPt at hp
              split at hp
              · next hk =>
                split at hp
                · cases hp
                · next hany =>
                  split at hp
                  · cases hp
                  · split at hp
                    · split at hp
                      · cases hp
                      · next t2 p2 hm2 =>
                        split at hp
                        · cases hp
                        · next v p3 hv =>
                          injection hp with e1 e2
                          subst e1
                          refine ⟨List.pairwise_append.2 ⟨hx.1, List.pairwise_singleton _ _, fun a ha b hb => ?_⟩, fun g hg => ?_⟩
                          · rcases List.mem_singleton.1 hb with rfl
                            intro e
                            exact hany (List.any_eq_true.2 ⟨a, ha, by rw [e]; exact beq_self_eq_true _⟩)
                          · rcases List.mem_append.1 hg with hg | hg
                            · exact hx.2 g hg
                            · rcases List.mem_singleton.1 hg with rfl
                              exact ⟨ht.txt_ hk, ht.len, ihv _ _ _ _ (must_tokOk hm2) hv⟩
                    · cases hp
              · cases hp) ⟨List.Pairwise.nil, fun g hg => by cases hg⟩ hr
            refine .inr ⟨rfl, rfl, fun x hx => ?_, .inr ⟨rfl, ?_, fun k hk => ?_, risK_of _ (ris_objS hI.1)⟩⟩
            · obtain ⟨g, hg, rfl⟩ := List.mem_map.1 (show x ∈ (objS fs).map (·.2) from hx)
              exact (hI.2 g ((objS_perm fs).mem_iff.1 hg)).2.2
            · show ((objS fs).map fun f => bT f.1).length = ((objS fs).map (·.2)).length
              rw [List.length_map, List.length_map]
            · obtain ⟨g, hg, rfl⟩ := List.mem_map.1 (show k ∈ (objS fs).map (fun f => bT f.1) from hk)
              obtain ⟨a1, a2, _⟩ := hI.2 g ((objS_perm fs).mem_iff.1 hg)
              exact ⟨by show okB (bT g.1).data.toList = true; simpa [bT] using a1, by show g.1.toArray.size ≤ _; simpa using a2⟩
        · cases h
      · exact .inl (leaf t p T q ht h)
end Go.Proofs.YtfjmgccbpiolhaaGreatDoor
namespace Go.Proofs.YtfjmgccbpiolhaaGreatDoor
open Go.RowKit Go.Shelf
set_option linter.unusedVariables false
set_option linter.unusedSimpArgs false

theorem bl_sp (b : UInt8) (h : cBl.contains b = true) : cWd.contains b = false ∧ cNm.contains b = false := by
  have : b = 32 ∨ b = 9 ∨ b = 10 ∨ b = 13 := by simpa [cBl] using h
  rcases this with rfl | rfl | rfl | rfl <;> exact ⟨by decide +kernel, by decide +kernel⟩
theorem lnW_bl (st : Option Nat) (d : Nat) : ∀ b ∈ lnW st d, cBl.contains b = true := by
  intro b hb
  cases st with
  | none => cases hb
  | some s =>
    rcases List.mem_cons.1 hb with rfl | h
    · decide
    · rw [List.mem_replicate] at h; rw [h.2]; decide
theorem joinR_cons (g : Nat → List UInt8) : ∀ k, joinR g (k + 1) = g 0 ++ joinR (fun i => g (i + 1)) k
  | 0 => by simp [joinR]
  | k + 1 => by
    show joinR g (k + 1) ++ g (k + 1) = _
    rw [joinR_cons g k]
    simp [joinR]
theorem joinR_tl (c : UInt8) (ln1 ln0 : List UInt8) : ∀ (N : Nat) (e : Nat → List UInt8), joinR (fun i => 44 :: (ln1 ++ e i)) N ++ (ln0 ++ [c]) = tlW c ln1 ln0 ((List.range N).map e)
  | 0, e => rfl
  | N + 1, e => by
    have ih := joinR_tl c ln1 ln0 N (fun i => e (i + 1))
    rw [joinR_cons, List.range_succ_eq_map, List.map_cons, List.map_map]
    simp only [tlW]
    rw [show ((e ∘ Nat.succ) = fun i => e (i + 1)) from rfl, ← ih]
    simp
theorem rowW_rw (o c : UInt8) (ln1 ln0 : List UInt8) (nm it : Nat → List UInt8) (N : Nat) : rowW o c ln1 ln0 nm it N = rwT o c ln1 ln0 ((List.range N).map fun i => nm i ++ it i) := by
  unfold rowW
  cases N with
  | zero => rfl
  | succ N =>
    rw [if_neg (by omega), joinR_cons, List.range_succ_eq_map, List.map_cons, List.map_map]
    have hg : joinR (fun i => pcW o ln1 nm it (i + 1)) N = joinR (fun i => 44 :: (ln1 ++ (nm (i + 1) ++ it (i + 1)))) N := joinR_congr (fun i _ => by simp [pcW, sepW])
    rw [hg]
    have ht := joinR_tl c ln1 ln0 N (fun i => nm (i + 1) ++ it (i + 1))
    rw [List.append_assoc, ht]
    simp [rwT, pcW, sepW]
    rfl
theorem range_get {α β : Type} (xs : List α) (g : α → β) (z : β) : (List.range xs.length).map (fun i => (xs[i]?.map g).getD z) = xs.map g := by
  apply List.ext_getElem
  · simp
  · intro i h1 h2
    simp at h1
    simp [h1]
theorem wL_wQ (l : List UInt8) : wQ l = wL l := rfl
theorem bT_self (b : ByteArray) : bT b.data.toList = b := by
  cases b; simp [bT]
theorem getD_lt {α : Type} (xs : List α) (z : α) {i : Nat} (h : i < xs.length) : xs.getD i z = xs[i] := by simp [List.getD, h]
def clB (st : Option Nat) : List UInt8 := match st with
  | none => []
  | some _ => [32]
theorem clB_bl (st : Option Nat) : ∀ b ∈ clB st, cBl.contains b = true := by
  intro b hb
  cases st with
  | none => cases hb
  | some s => rw [List.mem_singleton.1 hb]; decide
theorem clW_eq (st : Option Nat) : clW st = 58 :: clB st := by cases st <;> rfl
def fldsT (st : Option Nat) (H d0 : Nat) (ks : List ByteArray) (its : List VT) : List FldT := (ks.zip its).map fun p => ⟨p.1.data.toList, wrV st H (d0 + 1) p.2, p.2⟩
theorem wr_obj (st : Option Nat) (H d0 : Nat) (its : List VT) (ks : List ByteArray) (hl : ks.length = its.length) : wrV st (H + 1) d0 (.mk 6 .empty .empty its ks) = rwT 123 125 (lnW st (d0 + 1)) (lnW st d0) ((fldsT st H d0 ks its).map (FldT.text (clB st))) := by
  show rowW 123 125 _ _ _ _ _ = _
  rw [rowW_rw]
  congr 1
  unfold fldsT
  apply List.ext_getElem
  · rw [List.length_map, List.length_range, List.length_map, List.length_map, List.length_zip]
    show its.length = _
    omega
  · intro j h1 h2
    have hj : j < its.length := by
      rw [List.length_map, List.length_range] at h1
      exact h1
    have hk : j < ks.length := by omega
    rw [List.getElem_map, List.getElem_range, List.getElem_map, List.getElem_map, List.getElem_zip]
    have e1 : nmV (.mk 6 .empty .empty its ks) st j = wQ ks[j].data.toList ++ clW st := by
      unfold nmV
      rw [if_pos (show (VT.mk 6 .empty .empty its ks).kind = 6 from rfl)]
      show wQ (ks.getD j .empty).data.toList ++ _ = _
      rw [getD_lt ks _ hk]
    show nmV (.mk 6 .empty .empty its ks) st j ++ ((its[j]?).map (wrV st H (d0 + 1))).getD [] = wL ks[j].data.toList ++ (58 :: clB st ++ wrV st H (d0 + 1) its[j])
    rw [e1, List.getElem?_eq_getElem hj, clW_eq]
    show (wL ks[j].data.toList ++ 58 :: clB st) ++ wrV st H (d0 + 1) its[j] = _
    simp
theorem wr_arr (st : Option Nat) (H d0 : Nat) (its : List VT) : wrV st (H + 1) d0 (.mk 5 .empty .empty its []) = rwT 91 93 (lnW st (d0 + 1)) (lnW st d0) (its.map (wrV st H (d0 + 1))) := by
  show rowW 91 93 _ _ _ _ _ = _
  rw [rowW_rw]
  congr 1
  have := range_get its (wrV st H (d0 + 1)) []
  show (List.range its.length).map (fun i => ([] : List UInt8) ++ (its[i]?.map (wrV st H (d0 + 1))).getD []) = _
  simp only [List.nil_append]
  exact this
theorem risF_zip : ∀ (ks : List ByteArray) (ts : List VT), ks.length = ts.length → RisK ks → RisF ((ks.zip ts).map fun p => (p.1.data.toList, p.2))
  | [], ts, _, _ => List.Pairwise.nil
  | [k], ts, h, _ => by
    cases ts with
    | nil => cases h
    | cons t ts =>
      have : ts = [] := by simpa using h
      subst this
      exact List.pairwise_singleton _ _
  | k :: k2 :: ks, ts, h, hr => by
    cases ts with
    | nil => cases h
    | cons t ts =>
      have ih := risF_zip (k2 :: ks) ts (by simpa using h) hr.2
      cases ts with
      | nil => cases h
      | cons t2 ts =>
        rw [List.zip_cons_cons, List.map_cons]
        refine List.pairwise_cons.2 ⟨?_, ih⟩
        intro f hf
        rw [List.zip_cons_cons, List.map_cons] at hf ih
        rcases List.mem_cons.1 hf with rfl | hf
        · exact hr.1
        · exact List.lt_trans hr.1 ((List.pairwise_cons.1 ih).1 f hf)
theorem wr_read (st : Option Nat) (M : Nat) : ∀ (h : Nat) (T : VT), Rt M h T → ∀ (H d0 f d : Nat) (l : List UInt8), formN H T = true → h ≤ f → f + d = 65 → Reads l (valL l (obL l) f d) (wrV st H d0 T) T := by
  have leaf : ∀ (T : VT), LeafR M T → ∀ (H d0 f d : Nat) (l : List UInt8), formN H T = true → Reads l (valL l (obL l) f d) (wrV st H d0 T) T := by
    intro T hT H d0 f d l hH x y hl hy
    obtain ⟨H, rfl⟩ : ∃ k, H = k + 1 := by cases H with | zero => cases hH | succ H => exact ⟨H, rfl⟩
    obtain ⟨k, n, t, its, ks⟩ := T
    obtain ⟨h1, h2, h3⟩ := hT
    have e1 : its = [] := h1
    have e2 : ks = [] := h2
    subst e1 e2
    rcases h3 with ⟨g0, g2, gn, gt⟩ | ⟨gk, gn, _, gt⟩ | ⟨gk, gn, gt, _⟩
    · have en : n = .empty := gn
      have et : t = .empty := gt
      subst en et
      have gk : k = 0 ∨ k = 1 ∨ k = 2 := by
        have a : 0 ≤ k := g0
        have b : k ≤ 2 := g2
        omega
      rcases gk with rfl | rfl | rfl
      · have hw : wrV st (H + 1) d0 (.mk 0 .empty .empty [] []) = [110, 117, 108, 108] := rfl
        rw [hw] at hl ⊢
        have hn : nextT ([110, 117, 108, 108] ++ y) 0 = ⟨7, 0, 4, [], 0⟩ := (nextT_sp hy (by decide) (by decide +kernel)).trans (by kernel_rfl)
        have m := must_tok (x := x) (tk := [110, 117, 108, 108]) (y := y) (by decide) (by decide) hn
        rw [← hl] at m
        refine ⟨_, _, m, by show 7 ≠ 2; omega, by show 7 ≠ 4; omega, ?_⟩
        rw [val_leaf f d (by show 7 ≠ 3; omega) (by show 7 ≠ 1; omega)]
        rfl
      · have hw : wrV st (H + 1) d0 (.mk 1 .empty .empty [] []) = [102, 97, 108, 115, 101] := rfl
        rw [hw] at hl ⊢
        have hn : nextT ([102, 97, 108, 115, 101] ++ y) 0 = ⟨8, 0, 5, [], 0⟩ := (nextT_sp hy (by decide) (by decide +kernel)).trans (by kernel_rfl)
        have m := must_tok (x := x) (tk := [102, 97, 108, 115, 101]) (y := y) (by decide) (by decide) hn
        rw [← hl] at m
        refine ⟨_, _, m, by show 8 ≠ 2; omega, by show 8 ≠ 4; omega, ?_⟩
        rw [val_leaf f d (by show 8 ≠ 3; omega) (by show 8 ≠ 1; omega)]
        rfl
      · have hw : wrV st (H + 1) d0 (.mk 2 .empty .empty [] []) = [116, 114, 117, 101] := rfl
        rw [hw] at hl ⊢
        have hn : nextT ([116, 114, 117, 101] ++ y) 0 = ⟨9, 0, 4, [], 0⟩ := (nextT_sp hy (by decide) (by decide +kernel)).trans (by kernel_rfl)
        have m := must_tok (x := x) (tk := [116, 114, 117, 101]) (y := y) (by decide) (by decide) hn
        rw [← hl] at m
        refine ⟨_, _, m, by show 9 ≠ 2; omega, by show 9 ≠ 4; omega, ?_⟩
        rw [val_leaf f d (by show 9 ≠ 3; omega) (by show 9 ≠ 1; omega)]
        rfl
    · have ek : k = 3 := gk
      have et : t = .empty := gt
      subst ek et
      have hw : wrV st (H + 1) d0 (.mk 3 n .empty [] []) = n.data.toList := rfl
      rw [hw] at hl ⊢
      obtain ⟨⟨c, r, hcr, hc⟩, htok⟩ := gn
      have htok' : numeralT n.data.toList 0 = ⟨10, 0, n.data.toList.length, n.data.toList, 0⟩ := htok
      have hcr' : n.data.toList = c :: r := hcr
      have hc3 : cMk.contains c = false ∧ ¬ c = 34 ∧ cLe.contains c = false ∧ cBl.contains c = false := by
        have : c ∈ cDm := by simpa using hc
        have hall : ∀ c ∈ cDm, cMk.contains c = false ∧ ¬ c = 34 ∧ cLe.contains c = false ∧ cBl.contains c = false := by decide +kernel
        exact hall c this
      have hg : n.data.toList.getD 0 0 = c := by rw [hcr']; rfl
      have hlen : 0 < n.data.toList.length := by rw [hcr']; simp
      have hnx : nextT n.data.toList 0 = ⟨10, 0, n.data.toList.length, n.data.toList, 0⟩ := by
        unfold nextT
        rw [hg, if_neg (by rw [hc3.1]; decide), if_neg hc3.2.1, if_neg (by rw [hc3.2.2.1]; decide), if_pos hc]
        exact htok'
      have hn := (nextT_sp hy hlen (by rw [hnx])).trans hnx
      have m := must_tok (x := x) (tk := n.data.toList) (y := y) (by rw [hg]; exact hc3.2.2.2) hlen hn
      rw [← hl] at m
      refine ⟨_, _, m, by show 10 ≠ 2; omega, by show 10 ≠ 4; omega, ?_⟩
      rw [val_leaf f d (by show 10 ≠ 3; omega) (by show 10 ≠ 1; omega)]
      show Rd.ok (VT.mk 3 (bT n.data.toList) .empty [] []) _ = _
      rw [bT_self]
    · have ek : k = 4 := gk
      have en : n = .empty := gn
      subst ek en
      have hw : wrV st (H + 1) d0 (.mk 4 .empty t [] []) = wL t.data.toList := rfl
      rw [hw] at hl ⊢
      have m := must_tok (x := x) (tk := wL t.data.toList) (y := y) (by simp [wL, List.getD]; decide) (by simp [wL]) (next_lit _ y gt)
      rw [← hl] at m
      refine ⟨_, _, m, by show 11 ≠ 2; omega, by show 11 ≠ 4; omega, ?_⟩
      rw [val_leaf f d (by show 11 ≠ 3; omega) (by show 11 ≠ 1; omega)]
      show Rd.ok (VT.mk 4 .empty (bT t.data.toList) [] []) _ = _
      rw [bT_self]
  intro h
  induction h with
  | zero => intro T hT H d0 f d l hH hf hfd; exact leaf T hT H d0 f d l hH
  | succ h ih =>
    intro T hT H d0 f d l hH hf hfd
    rcases hT with hT | ⟨gn, gt, hits, hkind⟩
    · exact leaf T hT H d0 f d l hH
    · intro x y hl hy
      obtain ⟨H, rfl⟩ : ∃ k, H = k + 1 := by cases H with | zero => cases hH | succ H => exact ⟨H, rfl⟩
      have hfi : ∀ u ∈ T.items, formN H u = true := by
        intro u hu
        obtain ⟨i, hi, rfl⟩ := List.getElem_of_mem hu
        exact form_items hH (by rcases hkind with h | h; exact .inl h.1; exact .inr h.1) i hi
      obtain ⟨f, rfl⟩ : ∃ k, f = k + 1 := ⟨f - 1, by omega⟩
      obtain ⟨k, n, t, its, ks⟩ := T
      have en : n = .empty := gn
      have et : t = .empty := gt
      subst en et
      have hR : ∀ u ∈ its, Reads l (valL l (obL l) f (d + 1)) (wrV st H (d0 + 1) u) u := fun u hu => ih u (hits u hu) H (d0 + 1) f (d + 1) l (hfi u hu) (by omega) (by omega)
      have hd64 : d ≤ 64 := by omega
      rcases hkind with ⟨gk, gks⟩ | ⟨gk, glen, gok, gris⟩
      · have ek : k = 5 := gk
        have eks : ks = [] := gks
        subst ek eks
        have hw : wrV st (H + 1) d0 (.mk 5 .empty .empty its []) = rwT 91 93 (lnW st (d0 + 1)) (lnW st d0) ((its.map fun u => (wrV st H (d0 + 1) u, u)).map (·.1)) := by
          rw [wr_arr, List.map_map]; rfl
        rw [hw] at hl ⊢
        have ha := arr_read (lnW_bl st (d0 + 1)) (lnW_bl st d0) bl_sp (its.map fun u => (wrV st H (d0 + 1) u, u)) (by
          intro p hp
          obtain ⟨u, hu, rfl⟩ := List.mem_map.1 hp
          exact hR u hu) x y hl
        have hmap : (its.map fun u => (wrV st H (d0 + 1) u, u)).map (·.2) = its := by
          rw [List.map_map]
          exact List.map_id its
        rw [hmap] at ha
        obtain ⟨z, hz⟩ : ∃ z, l = x ++ ([] ++ 91 :: z) := by
          rw [hl]
          cases hcs : (its.map fun u => (wrV st H (d0 + 1) u, u)).map (·.1) with
          | nil => exact ⟨_, by simp [rwT]; rfl⟩
          | cons e es => exact ⟨_, by simp [rwT]; rfl⟩
        have m := must_mark (x := x) (y := z) (b := []) 91 (fun c hc => by cases hc) (by decide) (by decide)
        rw [← hz, kind_c3] at m
        refine ⟨_, _, m, by show 3 ≠ 2; omega, by show 3 ≠ 4; omega, ?_⟩
        unfold valL valAt
        rw [if_pos rfl, if_pos hd64]
        exact ha
      · have ek : k = 6 := gk
        have glen' : ks.length = its.length := glen
        subst ek
        have hw := wr_obj st H d0 its ks glen'
        have hcl := clB_bl st
        rw [hw] at hl ⊢
        have ho := obj_read hcl (lnW_bl st (d0 + 1)) (lnW_bl st d0) bl_sp (fldsT st H d0 ks its) (by
          intro p hp
          obtain ⟨q, hq, rfl⟩ := List.mem_map.1 hp
          have hq2 := List.of_mem_zip (a := q.1) (b := q.2) hq
          exact ⟨hR q.2 hq2.2, (gok q.1 hq2.1).1⟩) (by
          have := risF_zip ks its glen' gris
          unfold fldsT
          rw [List.map_map]
          exact this) x y hl
        have hm1 : (fldsT st H d0 ks its).map (·.val) = its := by
          unfold fldsT
          rw [List.map_map]
          show (ks.zip its).map (fun p => p.2) = its
          exact List.map_snd_zip (by omega)
        have hm2 : ((fldsT st H d0 ks its).map fun p => bT p.key) = ks := by
          unfold fldsT
          rw [List.map_map]
          show (ks.zip its).map (fun p => bT p.1.data.toList) = ks
          have : (ks.zip its).map (fun p => bT p.1.data.toList) = (ks.zip its).map (fun p => p.1) := List.map_congr_left (fun p _ => bT_self p.1)
          rw [this]
          exact List.map_fst_zip (by omega)
        rw [hm1, hm2] at ho
        obtain ⟨z, hz⟩ : ∃ z, l = x ++ ([] ++ 123 :: z) := by
          rw [hl]
          cases hcs : (fldsT st H d0 ks its).map (FldT.text (clB st)) with
          | nil => exact ⟨_, by simp [rwT]; rfl⟩
          | cons e es => exact ⟨_, by simp [rwT]; rfl⟩
        have m := must_mark (x := x) (y := z) (b := []) 123 (fun c hc => by cases hc) (by decide) (by decide)
        rw [← hz, kind_c1] at m
        refine ⟨_, _, m, by show 1 ≠ 2; omega, by show 1 ≠ 4; omega, ?_⟩
        unfold valL valAt
        rw [if_neg (by show ¬ 1 = 3; omega), if_pos rfl, if_pos hd64]
        exact ho
end Go.Proofs.YtfjmgccbpiolhaaGreatDoor
