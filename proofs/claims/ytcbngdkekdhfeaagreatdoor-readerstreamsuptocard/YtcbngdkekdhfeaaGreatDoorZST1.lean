import Derived.Test.YtcbngdkekdhfeaaGreatDoorZD20x
import Derived.Test.YtcbngdkekdhfeaaGreatDoorM37
import Derived.Test.YtcbngdkekdhfeaaGreatDoorZJ2
namespace Go.Proofs.YtcbngdkekdhfeaaGreatDoor
open Go.RowKit Go.Shelf
set_option linter.unusedVariables false
set_option linter.unusedSimpArgs false
attribute [local go_sem] Oper.semAt_some

structure KpV (lo : Nat) (W W' : World) : Prop where
  os : W'.os = W.os
  tape : W'.tape = W.tape
  output : W'.output = W.output
  size : W.heap.size ≤ W'.heap.size
  block : ∀ b, lo ≤ b ∨ b = 3 → b < W.heap.size → W'.heap[b]? = W.heap[b]?
theorem KpV.trans {lo : Nat} {A B C : World} (h : KpV lo A B) (k : KpV lo B C) : KpV lo A C :=
  ⟨k.os.trans h.os, k.tape.trans h.tape, k.output.trans h.output, Nat.le_trans h.size k.size, fun b g1 g2 => (k.block b g1 (Nat.lt_of_lt_of_le g2 h.size)).trans (h.block b g1 g2)⟩
theorem KpV.err {lo : Nat} {A B : World} (h : KpV lo A B) (hE : ErrIn A) : ErrIn B := by
  obtain ⟨ev, hc, hv⟩ := hE
  have hl : 3 < A.heap.size := World.block_lt_of_cell? A _ hc
  refine ⟨ev, ?_, hv⟩
  have := h.block _ (.inr rfl) hl
  unfold World.cell? at hc ⊢
  rw [this]; exact hc
theorem LowOf.but {β : Type} {B I : Nat} {J : β → World → Prop} (h : LowOf B J) (hI : B ≤ I) {x : β} {W W' : World} (hJ : J x W) (hb : But I W W') : J x W' := h x W W' hJ hb.os hb.tape hb.output hb.size (fun b g1 g2 => hb.block b g2 (by omega))
theorem LowOf.below {β : Type} {B : Nat} {J : β → World → Prop} (h : LowOf B J) {x : β} {W W' : World} (hJ : J x W) (hb : Below W.heap.size W W') : J x W' := h x W W' hJ hb.os hb.tape hb.output hb.size (fun b g1 g2 => hb.block b g2)
structure EY (J : List (VT × Value) → World → Prop) (w : World) (s : ByteArray) (p : Nat) (pre : List (VT × Value)) (u : World) : Prop where
  inp : InAt u (w.heap.size + 1) s p
  err : ErrIn u
  res : u.heap[w.heap.size]? = some (.cells #[.int .i64 0, .int .i64 0] 64 (0, 0))
  inv : J pre u
  fit : pre.length ≤ p
theorem each_begins (l : List UInt8) (vl : Tok → Nat → Rd VT) (f : Nat) (xs : List VT) (p : Nat) {R : List VT × Nat × Nat} (h : eachL l vl f xs p = R) : xs <+: R.1 := by
  rw [← h, each_acc]
  exact ⟨_, rfl⟩

set_option maxRecDepth 100000 in
set_option maxHeartbeats 6400000 in
theorem each_in (n : Nat) (hn : 1 ≤ n) (l : Nat) (s : ByteArray) (ss : s.size ≤ 16777216) (w : World) (hE : ErrIn w) (J Jx : List (VT × Value) → World → Prop) (hJ : LowOf w.heap.size J) (hJx : LowOf w.heap.size Jx)
    (hY : ∀ pre x W1, J pre W1 → InH W1 65 x.1 x.2 → pre.length < s.size + 1 → ((pre ++ [x]).map (·.1) <+: (eachL s.data.toList (vL s) (s.size + 1) [] 0).1) → YieldAt Fence.wide (n - 1) Tryz.prog l #[x.2] W1 fun e W' => (e = .returned (.bool true) ∧ J (pre ++ [x]) W' ∧ KpV w.heap.size W1 W') ∨ (e = .returned (.bool false) ∧ Jx (pre ++ [x]) W' ∧ KpV w.heap.size W1 W')) (h0 : J [] w) :
    CallsIn Fence.wide n Tryz.prog 29 #[.string s, .func (.yield l) #[] #[]] w fun e W' => (∃ v, e = .returned v) ∧ ((∃ xs, xs.map (·.1) = (eachL s.data.toList (vL s) (s.size + 1) [] 0).1 ∧ J xs W') ∨ (∃ pre, (pre.map (·.1) <+: (eachL s.data.toList (vL s) (s.size + 1) [] 0).1) ∧ Jx pre W')) := by
  have gE : 3 < w.heap.size := by
    obtain ⟨ev, hc, _⟩ := hE
    exact World.block_lt_of_cell? w _ hc
  have gI : w.heap.size + 1 ≠ 3 := by omega
  have HC := Hid.mk (fun (u : World) (p : Nat) (hp : p ≤ s.size) (hu : InAt u (w.heap.size + 1) s p) (hEu : ErrIn u) => w_caught_following s ss (w.heap.size + 1) p 64 hp (vL s) (vL_ok ss _ gI) (next_tx ss _) u hu hEu gI)
  have HU' := Hid.mk (vL_up ss)
  have hmf : ∀ (fn : Fn) (first cap : Array Value) (w : World), (Instr.makeFunc fn first cap).run Tryz.prog w = .ok (.func fn first cap) w := fun _ _ _ _ => rfl
  obtain ⟨R, hR⟩ : ∃ R, eachL s.data.toList (vL s) (s.size + 1) [] 0 = R := ⟨_, rfl⟩
  rw [hR] at hY ⊢
  have HRR := Hid.mk hR
  have HJ := Hid.mk hJ
  have HJx := Hid.mk hJx
  have HY := Hid.mk hY
  have HS0 : Hid (EY J w s 0 [] ((w.alloc (.cells #[.int .i64 0, .int .i64 0] 64)).alloc (.cells #[.string s, .int .i64 0] 62))) := by
    have hb0 : Below w.heap.size w ((w.alloc (.cells #[.int .i64 0, .int .i64 0] 64)).alloc (.cells #[.string s, .int .i64 0] 62)) := (below1 w _).alloc (by simp) _
    refine ⟨?_, hE.keep hb0, ?_, hJ.below h0 hb0, Nat.zero_le _⟩
    · have := heap_alloc_new (w.alloc (.cells #[.int .i64 0, .int .i64 0] 64)) (.cells #[.string s, .int .i64 0] 62)
      rw [World.size_alloc] at this
      exact this
    · exact (Below.heap_alloc _ _ _ (by simp)).trans (heap_alloc_new w _)
  have HG := Hid.mk (And.intro gI gE)
  clear hR hE gI hJ hJx hY h0
  refine callsIn_of_wp Tryz.func29 rfl trivial ?_ rfl
  simp only [Tryz.ntmps29, List.size_toArray, List.length_cons, List.length_nil, Nat.reduceAdd, Nat.reduceSub, Array.replicate_succ, Array.replicate_zero, List.push_toArray, List.append_toArray, List.nil_append, List.cons_append]
  gi_wp2_with fail
  gi_loopw [7] (fun a wr => ∃ (f : Nat) (pre : List (VT × Value)) (p : Nat), p ≤ s.size ∧ Hid (s.size < p + f) ∧ Hid (EY J w s p pre wr) ∧ Hid (eachL s.data.toList (vL s) f (pre.map (·.1)) p = R)) (fun _ wr => s.size + 1 - posOf (w.heap.size + 1) wr)
  case atStart => exact ⟨_, [], 0, Nat.zero_le _, (by show s.size < 0 + (s.size + 1); omega), HS0, HRR.out⟩
  case round =>
    clear HS0
    obtain ⟨f, pre, p, hp, HF, HS, HL⟩ := hrel
    obtain ⟨f, rfl⟩ : ∃ f', f = f' + 1 := ⟨f - 1, by have := HF.out; omega⟩
    have hLL := HL.out
    unfold eachL at hLL
    have hpos := HS.out.inp.pos
    have HPos := Hid.mk hpos
    clear hpos HL
    have HLL := Hid.mk hLL
    clear hLL
    cases hfo : folL s.data.toList (vL s) p with
    | bad er q =>
      refine wpIn_wide.2 ?_
      go_wp2_with fail
      refine (HC.out _ p hp HS.out.inp HS.out.err).mono ?_
      rintro e w1 ⟨hbut, hm⟩
      have hLL := HLL.out
      have hw1 : w.heap.size + 1 < w1.heap.size := by have h1 := HS.out.inp.lt; have h2 := hbut.size; omega
      have hw2 : w.heap.size < w1.heap.size := by omega
      have hr1 : w1.heap[w.heap.size]? = some (.cells #[.int .i64 0, .int .i64 0] 64 (0, 0)) := (hbut.block _ (by have := HS.out.inp.lt; omega) (by omega)).trans HS.out.res
      have HJ1 : Hid (J pre w1) := HJ.out.but (Nat.le_succ _) HS.out.inv hbut
      rw [hfo] at hm hLL
      have hm' : e = .returned (.tuple #[v0V, .bool false, fltV er q]) := hm
      subst hm'
      have HR2 : Hid ((pre.map (·.1), er, q) = R) := hLL
      clear hLL hfo hbut HLL
      unfold v0V fltV
      obtain ⟨rc0, rc1, rf0, rf1⟩ := fbox_cells hr1
      have HR1 := Hid.mk hr1
      clear hr1
      go_wp2_with fail
      obtain ⟨⟨z1, z2⟩, z3⟩ := each_end HR1.out (.int .i64 (er : Int)) (.int .i64 (q : Int)) (.cells #[.int .i64 0, .string ⟨#[]⟩, .string ⟨#[]⟩, .slice none 0 0, .slice none 0 0] 27) (.cells #[.int .i64 (er : Int), .int .i64 (q : Int)] 64)
      refine bodyPost_ret (v := .agg #[.int .i64 (er : Int), .int .i64 (q : Int)]) (by simp [results, Tryz.results29, go_sem, z1, z2]) rfl ?_
      exact ⟨⟨_, rfl⟩, .inl ⟨pre, by rw [← HR2.out], HJ.out.but (Nat.le_refl _) HJ1.out z3⟩⟩
    | ok o q =>
      cases o with
      | none =>
        refine wpIn_wide.2 ?_
        go_wp2_with fail
        refine (HC.out _ p hp HS.out.inp HS.out.err).mono ?_
        rintro e w1 ⟨hbut, hm⟩
        have hLL := HLL.out
        have hw1 : w.heap.size + 1 < w1.heap.size := by have h1 := HS.out.inp.lt; have h2 := hbut.size; omega
        have hw2 : w.heap.size < w1.heap.size := by omega
        have hr1 : w1.heap[w.heap.size]? = some (.cells #[.int .i64 0, .int .i64 0] 64 (0, 0)) := (hbut.block _ (by have := HS.out.inp.lt; omega) (by omega)).trans HS.out.res
        have HJ1 : Hid (J pre w1) := HJ.out.but (Nat.le_succ _) HS.out.inv hbut
        rw [hfo] at hm hLL
        obtain ⟨rfl, hin⟩ := hm
        have HR2 : Hid ((pre.map (·.1), 0, 0) = R) := hLL
        clear hLL hfo hbut HLL hin
        unfold v0V fltV
        obtain ⟨rc0, rc1, rf0, rf1⟩ := fbox_cells hr1
        have HR1 := Hid.mk hr1
        clear hr1
        go_wp2_with fail
        obtain ⟨⟨z1, z2⟩, z3⟩ := each_end HR1.out (.int .i64 0) (.int .i64 0) (.cells #[.int .i64 0, .string ⟨#[]⟩, .string ⟨#[]⟩, .slice none 0 0, .slice none 0 0] 27) (.cells #[.int .i64 0, .int .i64 0] 64)
        refine bodyPost_ret (v := .agg #[.int .i64 0, .int .i64 0]) (by simp [results, Tryz.results29, go_sem, z1, z2]) rfl ?_
        exact ⟨⟨_, rfl⟩, .inl ⟨pre, by rw [← HR2.out], HJ.out.but (Nat.le_refl _) HJ1.out z3⟩⟩
      | some T =>
        gi_wp2_with fail
        refine ⟨trivial, (callsIn_wide.2 (HC.out _ p hp HS.out.inp HS.out.err)).mono ?_⟩
        rintro e w1 ⟨hbut, hm⟩
        have hLL := HLL.out
        have hw1 : w.heap.size + 1 < w1.heap.size := by have h1 := HS.out.inp.lt; have h2 := hbut.size; omega
        have hw2 : w.heap.size < w1.heap.size := by omega
        have hr1 : w1.heap[w.heap.size]? = some (.cells #[.int .i64 0, .int .i64 0] 64 (0, 0)) := (hbut.block _ (by have := HS.out.inp.lt; omega) (by omega)).trans HS.out.res
        have HJ1 : Hid (J pre w1) := HJ.out.but (Nat.le_succ _) HS.out.inv hbut
        rw [hfo] at hm hLL
        obtain ⟨⟨v, rfl, hF⟩, hin⟩ := hm
        obtain ⟨f1, f2⟩ := folL_up HU'.out hp hfo
        have hHv := hF.toH
        obtain ⟨jo, jc, ko, kc, rfl, hrest⟩ := id hF
        obtain ⟨x, hx⟩ : ∃ x : VT × Value, (T, Value.agg #[.int .i64 T.kind, .string T.num, .string T.text, .slice jo T.items.length jc, .slice ko T.keys.length kc]) = x := ⟨_, rfl⟩
        have HL2 : Hid (eachL s.data.toList (vL s) f ((pre ++ [x]).map (·.1)) q = R) := by
          show _ = _
          rw [List.map_append, ← hx]
          exact hLL
        have hb2 : Below w1.heap.size w1 ((w1.alloc (.cells #[.int .i64 T.kind, .string T.num, .string T.text, .slice jo T.items.length jc, .slice ko T.keys.length kc] 27)).alloc (.cells #[.int .i64 0, .int .i64 0] 64)) := (below1 w1 _).alloc (by simp) _
        have hfb : ((w1.alloc (.cells #[.int .i64 T.kind, .string T.num, .string T.text, .slice jo T.items.length jc, .slice ko T.keys.length kc] 27)).alloc (.cells #[.int .i64 0, .int .i64 0] 64)).heap[w1.heap.size + 1]? = some (.cells #[.int .i64 0, .int .i64 0] 64 (0, 0)) := by
          have h := heap_alloc_new (w1.alloc (.cells #[.int .i64 T.kind, .string T.num, .string T.text, .slice jo T.items.length jc, .slice ko T.keys.length kc] 27)) (.cells #[.int .i64 0, .int .i64 0] 64)
          rw [World.size_alloc] at h
          exact h
        have hfit := HS.out.fit
        have hyy := HY.out pre x ((w1.alloc (.cells #[.int .i64 T.kind, .string T.num, .string T.text, .slice jo T.items.length jc, .slice ko T.keys.length kc] 27)).alloc (.cells #[.int .i64 0, .int .i64 0] 64)) (HJ.out.below HJ1.out hb2) (by rw [← hx]; exact hHv.keep hb2) (by omega) (each_begins _ _ _ _ _ HL2.out)
        rw [← hx] at hyy
        dsimp only at hyy
        obtain ⟨fn, tmps, assign, body, hy, hRn⟩ := hyy
        have HRn := Hid.mk hRn
        have hinW := hin.keep hb2
        have HK := Hid.mk (And.intro hinW (And.intro (hfb) ((hb2.block _ hw2).trans hr1)))
        have HEr : Hid (ErrIn ((w1.alloc (.cells #[.int .i64 T.kind, .string T.num, .string T.text, .slice jo T.items.length jc, .slice ko T.keys.length kc] 27)).alloc (.cells #[.int .i64 0, .int .i64 0] 64))) := (hbut.errIn HS.out.inp HS.out.err HG.out.1).keep hb2
        have HX := Hid.mk hx
        have HQ := Hid.mk (And.intro f1 (And.intro f2 hfit))
        clear hLL hfo hbut HLL hin hF hb2 hfb hr1 f1 f2 hfit hRn hinW hrest hHv hx HJ1
        unfold fltV
        gi_wp2_with fail
        refine HRn.out.mono ?_
        rintro e W4 (⟨rfl, hJ4, hk4⟩ | ⟨rfl, hJx4, hk4⟩)
        · have hin4 : InAt W4 (w.heap.size + 1) s q := (hk4.block _ (.inl (by omega)) HK.out.1.lt).trans HK.out.1
          have HN : Hid (EY J w s q (pre ++ [x]) W4) := ⟨hin4, hk4.err HEr.out, (hk4.block _ (.inl (Nat.le_refl _)) (Array.getElem?_eq_some_iff.1 HK.out.2.2).1).trans HK.out.2.2, by rw [← HX.out]; exact hJ4, by rw [List.length_append]; show pre.length + 1 ≤ q; have := HQ.out; omega⟩
          have hpos4 := hin4.pos
          have HPos4 := Hid.mk hpos4
          clear hpos4 hin4 hJ4 hk4 hy HK HEr
          gi_wp2_with fail
          go_roundw
          case rel => exact ⟨f, pre ++ [x], q, HQ.out.2.1, (by show s.size < q + f; have := HF.out; have := HQ.out; omega), HN, HL2⟩
          case measure =>
            have := HPos.out
            have := HPos4.out
            have := HQ.out
            omega
        · have hfb4 := (hk4.block _ (.inl (by omega)) (Array.getElem?_eq_some_iff.1 HK.out.2.1).1).trans HK.out.2.1
          have hr4 := (hk4.block _ (.inl (Nat.le_refl _)) (Array.getElem?_eq_some_iff.1 HK.out.2.2).1).trans HK.out.2.2
          obtain ⟨a0, a1, _, _⟩ := fbox_cells hfb4
          obtain ⟨rc0, rc1, rf0, rf1⟩ := fbox_cells hr4
          have HR4 := Hid.mk hr4
          have HJ4 := Hid.mk hJx4
          clear hfb4 hr4 hJx4 hk4 hy HK HEr
          gi_wp2_with fail
          have e1 := rset (i := 1) (c := #[.int .i64 0, .int .i64 0]) (.int .i64 0) (rset (i := 0) (c := #[.int .i64 0, .int .i64 0]) (.int .i64 0) HR4.out)
          obtain ⟨z1, z2, _, _⟩ := fbox_cells (y0 := .int .i64 0) (y1 := .int .i64 0) e1
          refine bodyPost_ret (v := .agg #[.int .i64 0, .int .i64 0]) (by simp [results, Tryz.results29, go_sem, z1, z2]) rfl ?_
          refine ⟨⟨_, rfl⟩, .inr ⟨pre ++ [x], each_begins _ _ _ _ _ HL2.out, ?_⟩⟩
          rw [← HX.out]
          exact HJx.out _ W4 _ HJ4.out rfl rfl rfl (by simp) (fun b g1 g2 => by rw [Below.heap_setCell _ _ _ _ (by show b ≠ w.heap.size; omega), Below.heap_setCell _ _ _ _ (by show b ≠ w.heap.size; omega)])
end Go.Proofs.YtcbngdkekdhfeaaGreatDoor
