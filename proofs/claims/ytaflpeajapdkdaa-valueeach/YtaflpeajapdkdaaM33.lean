import Derived.Test.YtaflpeajapdkdaaM30
import Derived.Test.YtaflpeajapdkdaaM32
import Derived.Sort.CutIn
namespace Go.Proofs.Ytaflpeajapdkdaa
open Go.RowKit Go.Maps Go.Sort Go.Shelf
set_option linter.unusedVariables false
set_option linter.unusedSimpArgs false
attribute [local go_sem] Oper.semAt_some

theorem KpN.own {B : Nat} {w0 : World} {β : Type} {m : Nat} : OwnFrom m (fun (_ : β) W => KpN B w0 W) := fun _ X Y row hs hg hr =>
  ⟨hg.os.trans hs.os, hg.tape.trans hs.tape, hg.output.trans hs.output, Nat.le_trans hs.size hg.size, fun b o hb ho hc => by
    have hX := hs.same b o hb ho hc
    refine (hg.block b (Array.getElem?_eq_some_iff.1 hX).1 (fun e => ?_)).trans hX
    obtain ⟨_, o2, h2, h3⟩ := hr b e.symm
    rw [hX] at h2
    cases h2
    rw [hc] at h3
    cases h3⟩
theorem KpN.putObj {B : Nat} {W : World} {D : Nat} {r r' : Loop} (h : W.heap[D]? = some (.loop r)) : KpN B W (W.putObj D (.loop r')) :=
  ⟨rfl, rfl, rfl, by simp [World.putObj], fun b o _ ho hc => by
    by_cases hbD : b = D
    · subst hbD
      rw [h] at ho
      cases ho
      cases hc
    · exact (World.putObj_heap_other hbD).trans ho⟩
theorem yieldE_any {m m' : Nat} {P : Program} {l : Nat} {args : Array Value} {W : World} {R : Ending → World → Prop} (h : YieldAt Fence.wide m P l args W R) : YieldAt Fence.wide m' P l args W R := by
  obtain ⟨fn, tmps, assign, body, hy, h1, h2⟩ := h
  exact ⟨fn, tmps, assign, body, hy, h1, fun c cs _ => h2 c cs (fun d hd => by cases hd)⟩

set_option maxRecDepth 100000 in
set_option maxHeartbeats 12800000 in
theorem each1_in (h l B A1 N K lo : Nat) (x0 : Int) (x1 x2 : ByteArray) (io : Option Addr) (ic : Nat) (ko : Option Addr) (kc : Nat) (ky : Nat → ByteArray) (c : Nat → Fin 5 → Value) (hN : N ≤ ic ∧ K ≤ kc) (hN2 : N ≤ 100000) (hK2 : K ≤ 100000) (hone : ∀ i, i < N → OneC (c i)) (ts : List VT) (lts : ts.length = N) (hsz : ∀ x ∈ ts, szN h x ≤ 1048577)
    (J Jx : List (EX N) → World → Prop) (W : World) (hBl : B < W.heap.size) (hlo : B < lo) (hS0 : InK W B A1 N K (.int .i64 x0) (.string x1) (.string x2) io ic ko kc ky c) (hT : ∀ i x, ts[i]? = some x → InF lo W h x (.agg #[c i 0, c i 1, c i 2, c i 3, c i 4])) (hJ : OwnFrom W.heap.size J) (hJx : OwnFrom W.heap.size Jx)
    (hY : ∀ pre (x : EX N) W1, J pre W1 → EAt h W.heap.size ts x W1 → pre.length < N → (pre ++ [x]).map (·.1.1) = List.range (pre ++ [x]).length → YieldAt Fence.wide (6 - 1) Try.prog l (encE K ky x) W1 fun e W' =>
      (e = .returned (.bool true) ∧ J (pre ++ [x]) W' ∧ KpM x.2.2 B W1 W' ∧ KeepsTo (W.heap.size + 2) x.2.2 W1 W') ∨ (e = .returned (.bool false) ∧ Jx (pre ++ [x]) W' ∧ KpM x.2.2 B W1 W' ∧ KeepsTo (W.heap.size + 2) x.2.2 W1 W')) (h0 : J [] W) :
    CallsIn Fence.wide 6 Try.prog 14 #[.func (.yield l) #[] #[], .pointer (some ⟨A1, 0, none⟩)] W fun e W' => (∃ v, e = .returned v) ∧
      ((∃ xs : List (EX N), xs.map (·.1.1) = List.range N ∧ J xs W') ∨ (∃ pre : List (EX N), pre.map (·.1.1) = List.range pre.length ∧ Jx pre W')) := by
  have HJ := Hid.mk hJ
  have HJX := Hid.mk hJx
  have HY := Hid.mk hY
  have HO := Hid.mk hone
  have HT := Hid.mk hT
  have HLT := Hid.mk lts
  have HSZ := Hid.mk hsz
  have HH0 := Hid.mk h0
  have HIn0 := Hid.mk hS0
  have hA1 := (Array.getElem?_eq_some_iff.1 hS0.box).1
  have hbox := hS0.box
  have r : ∀ (o : Obj) j v, W.cell? ⟨A1, j, none⟩ = some v → (W.alloc o).cell? ⟨A1, j, none⟩ = some v := fun o j v h => ((below1 W o).cell (p := ⟨_, _, _⟩) hA1).trans h
  have c0 : ∀ o, (W.alloc o).cell? ⟨A1, 0, none⟩ = some (.int .i64 x0) := fun o => r o 0 _ (cell_of_row _ _ 0 _ _ _ hbox)
  have c1 : ∀ o, (W.alloc o).cell? ⟨A1, 1, none⟩ = some (.string x1) := fun o => r o 1 _ (cell_of_row _ _ 1 _ _ _ hbox)
  have c2 : ∀ o, (W.alloc o).cell? ⟨A1, 2, none⟩ = some (.string x2) := fun o => r o 2 _ (cell_of_row _ _ 2 _ _ _ hbox)
  have c3 : ∀ o, (W.alloc o).cell? ⟨A1, 3, none⟩ = some (.slice io N ic) := fun o => r o 3 _ (cell_of_row _ _ 3 _ _ _ hbox)
  have c4 : ∀ o, (W.alloc o).cell? ⟨A1, 4, none⟩ = some (.slice ko K kc) := fun o => r o 4 _ (cell_of_row _ _ 4 _ _ _ hbox)
  have HN := Hid.mk hN
  clear hJ hJx hY h0 hone hS0 hT lts hsz hN hbox r
  refine callsIn_of_wp_marks Try.func14 rfl trivial ?_ rfl
  simp only [Try.ntmps14, List.size_toArray, List.length_cons, List.length_nil, Nat.reduceAdd, Nat.reduceSub, Array.replicate_succ, Array.replicate_zero, List.push_toArray, List.append_toArray, List.nil_append, List.cons_append]
  gi_wp2_with fail
  refine ⟨trivial, (callsIn_wide.2 (w_inside _ _ _ _ _ ⟨x0, x1, x2, io, N, ic, ko, K, kc, rfl, rfl, rfl, rfl, rfl⟩ _)).mono ?_⟩
  rintro e w2 ⟨rfl, rfl⟩
  gi_wp2_with fail
  have hB2 : Below W.heap.size W ((W.alloc (.cells #[.func (.yield l) #[] #[]] 41)).alloc (.cells #[.int .i64 x0, .string x1, .string x2, .slice io N ic, .slice ko K kc] 25)) := below2 W _ _
  have HYb : Hid (((W.alloc (.cells #[.func (.yield l) #[] #[]] 41)).alloc (.cells #[.int .i64 x0, .string x1, .string x2, .slice io N ic, .slice ko K kc] 25)).heap[W.heap.size]? = some (.cells #[.func (.yield l) #[] #[]] 41 (0, 0))) := (Below.heap_alloc _ _ _ (by simp)).trans (heap_alloc_new W _)
  have HIn : Hid (InK ((W.alloc (.cells #[.func (.yield l) #[] #[]] 41)).alloc (.cells #[.int .i64 x0, .string x1, .string x2, .slice io N ic, .slice ko K kc] 25)) B (W.heap.size + 1) N K (.int .i64 x0) (.string x1) (.string x2) io ic ko kc ky c) := by
    have h1 := HIn0.out.keep (KpN.of_below hB2)
    refine ⟨?_, by omega, h1.keys, h1.items⟩
    have := heap_alloc_new (W.alloc (.cells #[.func (.yield l) #[] #[]] 41)) (.cells #[.int .i64 x0, .string x1, .string x2, .slice io N ic, .slice ko K kc] 25)
    rwa [World.size_alloc] at this
  have HJ0 : Hid (J [] ((W.alloc (.cells #[.func (.yield l) #[] #[]] 41)).alloc (.cells #[.int .i64 x0, .string x1, .string x2, .slice io N ic, .slice ko K kc] 25))) := HJ.out.alloc _ (HJ.out.alloc _ HH0.out)
  obtain ⟨V2, hV2⟩ : ∃ V2, (W.alloc (.cells #[.func (.yield l) #[] #[]] 41)).alloc (.cells #[.int .i64 x0, .string x1, .string x2, .slice io N ic, .slice ko K kc] 25) = V2 := ⟨_, rfl⟩
  have hVs : V2.heap.size = W.heap.size + 2 := by rw [← hV2]; simp
  rw [hV2] at HIn HYb HJ0 hB2
  rw [hV2]
  have HBw : Hid (Below W.heap.size W V2) := hB2
  clear hV2 c0 c1 c2 c3 c4 hB2 HIn0 HH0
  refine wpIn_range_ownO (by omega) (gf := 35) (lb := #[.pointer (some ⟨W.heap.size + 1, 0, none⟩)]) rfl (enters_of Try.func35 (by kernel_rfl) rfl)
    (encs := fun x : { i : Nat // i < N } => encK (kyF K ky) c x.1) (Kp := KpN B) (S := fun xs => xs.map (·.1) = List.range N) (Sp := fun m => m.map (·.1) = List.range m.length) (N := N) (w0 := V2)
    (fun l' J' Jx' W' hb' hs' hJ' hJx' hY' h0' => inside1_inK 5 (by omega) l' B (W.heap.size + 1) N K _ _ _ io ic ko kc ky c HN.out hN2 hK2 HO.out J' Jx' W' (HIn.out.keep (KpN.of_below hb')) hJ' hJx' (fun pre x W1 g1 g2 g3 => hY' pre x W1 g1 g2 g3) h0')
    (fun h k => h.trans k) (fun Z r r' h => KpN.putObj h) (Below.refl _ _) (fun _ => rfl)
    (fun (pre : List { i : Nat // i < N }) W1 => KpN B V2 W1 ∧ ∃ pre' : List (EX N), pre'.map (·.1.1) = List.range pre.length ∧ J pre' W1)
    (fun cc (pre : List { i : Nat // i < N }) W1 => cc = .ret ∧ ∃ pre' : List (EX N), pre'.map (·.1.1) = List.range pre'.length ∧ Jx pre' W1) ?hI ?hIx ?h0
    (fun x a' W1 => ∃ Bx, IBox W1 Bx (c x.1) ∧ a' = { tmps := #[.func (.yield l) #[] #[], .pointer (some ⟨A1, 0, none⟩), .pointer (some ⟨W.heap.size, 0, none⟩), .string (kyF K ky x.1), .pointer (some ⟨Bx, 0, none⟩), .agg #[.int .i64 x0, .string x1, .string x2, .slice io N ic, .slice ko K kc], .func (.func 35) #[] #[.pointer (some ⟨W.heap.size + 1, 0, none⟩)], .string (kyF K ky x.1), .agg #[c x.1 0, c x.1 1, c x.1 2, c x.1 3, c x.1 4], undef, undef, undef, undef, undef, undef], defers := [] }) ?hAx ?assign ?body ?done ?stop
  case hI =>
    rintro pre X Y row ⟨h1, pre', h3, h4⟩ hg hr
    exact ⟨KpN.own (β := Unit) () X Y row h1 hg hr, pre', h3, HJ.out pre' X Y row h4 hg (fun r e => ⟨by have := (hr r e).1; omega, (hr r e).2⟩)⟩
  case hIx =>
    rintro cc pre X Y row ⟨h1, pre', h3, h2⟩ hg hr
    exact ⟨h1, pre', h3, HJX.out pre' X Y row h2 hg (fun r e => ⟨by have := (hr r e).1; omega, (hr r e).2⟩)⟩
  case h0 => exact ⟨KpN.of_below (Below.refl _ _), [], rfl, HJ0.out⟩
  case hAx =>
    rintro x a' _ X Y row ⟨Bx, h2, h3⟩ hg hr
    exact ⟨Bx, ibox_own _ Bx (c x.1) () X Y row h2 hg hr, h3⟩
  case assign =>
    rintro l' pre x W1 KK ⟨g1, pre', g3, g4⟩ hKK
    obtain ⟨ik, inm, itx, iio, iN, iicap, iko, iK, ikcap, o0, o1, o2, o3, o4⟩ := HO.out x.1 x.2
    have hIb : IBox (W1.alloc (.cells #[c x.1 0, c x.1 1, c x.1 2, c x.1 3, c x.1 4] 25)) W1.heap.size (c x.1) := ⟨World.alloc_heap_new W1 _⟩
    have hkp : KpN B W1 (W1.alloc (.cells #[c x.1 0, c x.1 1, c x.1 2, c x.1 3, c x.1 4] 25)) := KpN.of_below (below1 _ _)
    have hgs := g1.size
    obtain ⟨Bx, hBx⟩ : ∃ Bx, W1.heap.size = Bx := ⟨_, rfl⟩
    rw [hBx] at hIb
    have FIN := hKK { tmps := #[.func (.yield l) #[] #[], .pointer (some ⟨A1, 0, none⟩), .pointer (some ⟨W.heap.size, 0, none⟩), .string (kyF K ky x.1), .pointer (some ⟨Bx, 0, none⟩), .agg #[.int .i64 x0, .string x1, .string x2, .slice io N ic, .slice ko K kc], .func (.func 35) #[] #[.pointer (some ⟨W.heap.size + 1, 0, none⟩)], .string (kyF K ky x.1), .agg #[c x.1 0, c x.1 1, c x.1 2, c x.1 3, c x.1 4], undef, undef, undef, undef, undef, undef], defers := [] } _ (keepsFrom_below (below1 W1 (.cells #[c x.1 0, c x.1 1, c x.1 2, c x.1 3, c x.1 4] 25))) hkp ⟨g1.trans hkp, pre', g3, HJ.out pre' _ _ none g4 (World.grownBy_alloc W1 _ none) (fun r e => by cases e)⟩ ⟨_, hIb, rfl⟩
    rw [← hBx] at FIN
    unfold encK
    dsimp only
    rw [o0, o1, o2, o3, o4] at FIN ⊢
    clear hKK hIb hkp g1 g3 g4 hBx
    gi_wp2_with fail
    exact FIN
  case body =>
    rintro l' pre x a' W1 hl ⟨r, hr⟩ ⟨hkn, pre', hpre, hJp⟩ ⟨Bx, bX, rfl⟩ hlt hSp
    obtain ⟨ik, inm, itx, iio, iN, iicap, iko, iK, ikcap, o0, o1, o2, o3, o4⟩ := HO.out x.1 x.2
    have hx : x.1 = pre.length := by
      have h1 : pre.map (·.1) ++ [x.1] = List.range (pre.length + 1) := by
        have h2 := hSp
        rw [List.map_append, List.length_append] at h2
        exact h2
      rw [List.range_succ] at h1
      have h2 := List.append_inj_right' h1 rfl
      exact (List.cons.inj h2).1
    obtain ⟨T, hTx⟩ : ∃ T, ts[x.1]? = some T := ⟨_, List.getElem?_eq_getElem (by rw [HLT.out]; exact x.2)⟩
    have hbd : Below W1.heap.size W1 W1.drew := ⟨rfl, rfl, rfl, Nat.le_refl _, fun _ _ => rfl⟩
    have hIF := InF.keepN (((KpN.of_below HBw.out).trans hkn).trans (KpN.of_below hbd)) hlo (HT.out x.1 T hTx)
    have d1 : W1.cell? ⟨W.heap.size, 0, none⟩ = some (.func (.yield l) #[] #[]) := cell_of_row _ _ 0 _ _ _ (hkn.same _ _ (by omega) HYb.out rfl)
    obtain ⟨e0, e1, e2, e3, e4⟩ := bX.cell
    have hTw := w_TwinO h T _ W1.drew hIF.toH (HSZ.out T (List.mem_of_getElem? hTx))
    rw [o0] at e0; rw [o1] at e1; rw [o2] at e2; rw [o3] at e3; rw [o4] at e4
    rw [o0, o1, o2, o3, o4] at hTw
    have lt : ∀ {b o : Nat} {v : Value}, W1.cell? ⟨b, o, none⟩ = some v → b < W1.heap.size := fun {b o v} h => World.block_lt_of_cell? W1 ⟨b, o, none⟩ h
    have HSS : Hid (∀ u, Below W1.heap.size W1 u → u.cell? ⟨W.heap.size, 0, none⟩ = some (.func (.yield l) #[] #[]) ∧ u.cell? ⟨Bx, 0, none⟩ = some (.int .i64 ik) ∧ u.cell? ⟨Bx, 1, none⟩ = some (.string inm) ∧ u.cell? ⟨Bx, 2, none⟩ = some (.string itx) ∧ u.cell? ⟨Bx, 3, none⟩ = some (.slice iio iN iicap) ∧ u.cell? ⟨Bx, 4, none⟩ = some (.slice iko iK ikcap)) := fun u hu =>
      ⟨(hu.cell (p := ⟨_, _, _⟩) (lt d1)).trans d1, (hu.cell (p := ⟨_, _, _⟩) (lt e0)).trans e0, (hu.cell (p := ⟨_, _, _⟩) (lt e1)).trans e1, (hu.cell (p := ⟨_, _, _⟩) (lt e2)).trans e2, (hu.cell (p := ⟨_, _, _⟩) (lt e3)).trans e3, (hu.cell (p := ⟨_, _, _⟩) (lt e4)).trans e4⟩
    have HTw := Hid.mk hTw
    have HJp := Hid.mk hJp
    have HPre := Hid.mk hpre
    have HKn := Hid.mk hkn
    have hW1s := hkn.size
    clear hIF hTw hJp hpre hkn d1 e0 e1 e2 e3 e4 o0 o1 o2 o3 o4 lt bX
    gi_upto_region 4 with fail
    refine wpIn_region_G 4 (S := fun u => u.cell? ⟨W.heap.size, 0, none⟩ = some (.func (.yield l) #[] #[]) ∧ u.cell? ⟨Bx, 0, none⟩ = some (.int .i64 ik) ∧ u.cell? ⟨Bx, 1, none⟩ = some (.string inm) ∧ u.cell? ⟨Bx, 2, none⟩ = some (.string itx) ∧ u.cell? ⟨Bx, 3, none⟩ = some (.slice iio iN iicap) ∧ u.cell? ⟨Bx, 4, none⟩ = some (.slice iko iK ikcap)) (by kernel_rfl) (HSS.out _ hbd) (fun hHeld => ?_)
    refine wpAnyG_takeR 0 (.func (.yield l) #[] #[]) (by kernel_rfl) rfl (by kernel_rfl) (fun _ _ _ h => h) ⟨Or.inl ⟨by rfl, ?_⟩, fun _ => rfl⟩ (by assumption) ?_
    · intro u hSu
      obtain ⟨hs0, hs1, hs2, hs3, hs4, hs5⟩ := hSu
      go_simp
    try simp only [Act.put, List.setIfInBounds_toArray, List.set_cons_zero, List.set_cons_succ]
    refine wpAnyG_takeR 1 (.string (kyF K ky x.1)) (by kernel_rfl) rfl (by kernel_rfl) (fun _ _ _ h => h) ⟨Or.inl ⟨by rfl, ?_⟩, fun _ => rfl⟩ (by assumption) ?_
    · intro u hSu
      go_simp
    try simp only [Act.put, List.setIfInBounds_toArray, List.set_cons_zero, List.set_cons_succ]
    refine wpAnyG_takeR 2 (.agg #[.int .i64 ik, .string inm, .string itx, .slice iio iN iicap, .slice iko iK ikcap]) (by kernel_rfl) rfl (by kernel_rfl) (fun _ _ _ h => h) ⟨Or.inl ⟨by rfl, ?_⟩, fun _ => rfl⟩ (by assumption) ?_
    · intro u hSu
      obtain ⟨hs0, hs1, hs2, hs3, hs4, hs5⟩ := hSu
      go_simp
    try simp only [Act.put, List.setIfInBounds_toArray, List.set_cons_zero, List.set_cons_succ]
    refine wpAnyG_one (i := 3) (o := _) (by kernel_rfl) rfl (fun K2 hK2 => ?_)
    rw [if_pos (by rfl)]
    refine wpIn_of_enterR rfl (fun _ => by decide) (fun _ _ => trivial) (by kernel_rfl) ((callsIn_wide.2 HTw.out).mono ?_)
    rintro e W5 ⟨v5, rfl, hO5, hb5⟩
    have hb15 : Below W1.heap.size W1 W5 := hbd.trans hb5
    obtain ⟨k5, n5, t5, io5, N5, ic5, ko5, K5, kc5, rfl⟩ := hO5.shape
    obtain ⟨x', hx'⟩ : ∃ x' : EX N, x' = (x, (fun j => match j with | 0 => .int .i64 k5 | 1 => .string n5 | 2 => .string t5 | 3 => .slice io5 N5 ic5 | 4 => .slice ko5 K5 kc5), W1.heap.size) := ⟨_, rfl⟩
    have hpl : pre'.length = pre.length := by have := congrArg List.length HPre.out; simpa using this
    have HMap : Hid ((pre' ++ [x']).map (·.1.1) = List.range (pre ++ [x]).length) := by
      show _ = _
      rw [List.map_append, HPre.out, List.length_append, hx', ← hx]
      show _ = List.range (x.1 + 1)
      rw [List.range_succ]
      rfl
    have hY5 := HY.out pre' x' W5 (HJ.out pre' W1 W5 none HJp.out (grown_below hb15) (fun r e => by cases e)) (by
      rw [hx']
      exact ⟨by show W.heap.size ≤ W1.heap.size; omega, hb15.size, T, hTx, hO5⟩) (by rw [hpl]; exact hlt) (by
      have h1 := HMap.out
      rw [List.length_append] at h1 ⊢
      rw [hpl]
      exact h1)
    have hY6 := yieldE_any (m' := 4 - 1) hY5
    rw [show encE K ky x' = #[.string (kyF K ky x.1), .agg #[.int .i64 k5, .string n5, .string t5, .slice io5 N5 ic5, .slice ko5 K5 kc5]] from by rw [hx']; rfl] at hY6
    have HY6 := Hid.mk hY6
    have HB15 := Hid.mk hb15
    have hx2 : x'.2.2 = W1.heap.size := by rw [hx']
    clear hY5 hY6 hO5 hb5 hx' hHeld
    refine ⟨_, rfl, hK2 _ _ (fun _ _ => HSS.out _ hb15) ?_⟩
    clear hK2 K2
    try simp only [Act.put, List.setIfInBounds_toArray, List.set_cons_zero, List.set_cons_succ]
    refine wpAnyG_one (i := 4) (o := _) (by kernel_rfl) rfl (fun K2 hK2 => ?_)
    rw [if_pos (by rfl)]
    refine wpIn_of_yieldR rfl (fun _ => by decide) (by kernel_rfl) (by kernel_rfl) HY6.out ?_
    have hkf : ∀ {W6 : World}, KeepsTo (W.heap.size + 2) x'.2.2 W5 W6 → KeepsFrom (W.heap.size + 2) W1 W6 := fun hk => ⟨Nat.le_trans HB15.out.size hk.size, fun b o hM ho hc => hk.same b o hM (by rw [hx2]; exact (Array.getElem?_eq_some_iff.1 ho).1) ((HB15.out.block b (Array.getElem?_eq_some_iff.1 ho).1).trans ho) hc⟩
    rintro e W6 (⟨rfl, hJ6, hm6, hk6⟩ | ⟨rfl, hJ6, hm6, hk6⟩)
    · have hkn6 : KpN B W1 W6 := KpN.after HB15.out hm6 (by rw [hx2]; exact Nat.le_refl _)
      have FIN : Hid (ownPostG (W.heap.size + 2) (KpN B) (fun (pre : List { i : Nat // i < N }) W1 => KpN B V2 W1 ∧ ∃ pre' : List (EX N), pre'.map (·.1.1) = List.range pre.length ∧ J pre' W1) (fun cc (pre : List { i : Nat // i < N }) W1 => cc = .ret ∧ ∃ pre' : List (EX N), pre'.map (·.1.1) = List.range pre'.length ∧ Jx pre' W1) (pre ++ [x]) W1 .normal { tmps := #[], defers := [] } W6 ∧ KpN B W1 W6) :=
        ⟨⟨hkf hk6, hkn6, HKn.out.trans hkn6, _, HMap.out, hJ6⟩, hkn6⟩
      clear hJ6 hm6 hk6 hkn6
      refine ⟨_, rfl, hK2 _ _ (fun _ h => absurd rfl h) ?_⟩
      try simp only [Act.put, List.setIfInBounds_toArray, List.set_cons_zero, List.set_cons_succ]
      refine wpAnyG_one (i := 5) (o := _) (by kernel_rfl) rfl (fun K3 hK3 => ?_)
      rw [if_pos (by rfl)]
      refine wpIn_of_valueR (.bool false) rfl (by kernel_rfl) (by kernel_rfl) (hK3 _ _ (fun h => absurd h (by decide)) ?_)
      try simp only [Act.put, List.setIfInBounds_toArray, List.set_cons_zero, List.set_cons_succ]
      refine wpAnyG_done (by kernel_rfl) ?_ _
      clear hK2 hK3 K2 K3
      gi_wp2_with fail
      exact FIN.out
    · have hkn6 : KpN B W1 W6 := KpN.after HB15.out hm6 (by rw [hx2]; exact Nat.le_refl _)
      have FIN : Hid (ownPostG (W.heap.size + 2) (KpN B) (fun (pre : List { i : Nat // i < N }) W1 => KpN B V2 W1 ∧ ∃ pre' : List (EX N), pre'.map (·.1.1) = List.range pre.length ∧ J pre' W1) (fun cc (pre : List { i : Nat // i < N }) W1 => cc = .ret ∧ ∃ pre' : List (EX N), pre'.map (·.1.1) = List.range pre'.length ∧ Jx pre' W1) (pre ++ [x]) W1 .ret { tmps := #[], defers := [] } W6 ∧ KpN B W1 W6) :=
        ⟨⟨hkf hk6, rfl, _, by rw [HMap.out, List.length_append, List.length_append, hpl]; rfl, hJ6⟩, hkn6⟩
      clear hJ6 hm6 hk6 hkn6
      refine ⟨_, rfl, hK2 _ _ (fun _ h => absurd rfl h) ?_⟩
      try simp only [Act.put, List.setIfInBounds_toArray, List.set_cons_zero, List.set_cons_succ]
      refine wpAnyG_one (i := 5) (o := _) (by kernel_rfl) rfl (fun K3 hK3 => ?_)
      rw [if_pos (by rfl)]
      refine wpIn_of_valueR (.bool true) rfl (by kernel_rfl) (by kernel_rfl) (hK3 _ _ (fun h => absurd h (by decide)) ?_)
      try simp only [Act.put, List.setIfInBounds_toArray, List.set_cons_zero, List.set_cons_succ]
      refine wpAnyG_done (by kernel_rfl) ?_ _
      clear hK2 hK3 K2 K3
      gi_wp2_with fail
      exact FIN.out
  case done =>
    rintro D xs W1 hD hS ⟨hkn, pre', hpre, hJp⟩ hK
    have hxl : xs.length = N := by have := congrArg List.length hS; simpa using this
    rw [hxl] at hpre
    have HF : Hid (∃ xs : List (EX N), xs.map (·.1.1) = List.range N ∧ J xs (W1.putObj D (.deferred none))) := ⟨pre', hpre, HJ.out.putObj _ hJp (by omega) hK rfl⟩
    clear hkn hpre hJp hS
    gi_wp2_with fail
    refine ⟨by simp, .inl ⟨_, _, rfl, run_takeDeferred hK, ?_⟩⟩
    refine ⟨.tuple #[], results_none rfl _ _ _, ?_⟩
    exact ⟨⟨_, rfl⟩, .inl HF.out⟩
  case stop =>
    rintro D cc pre W1 hD hSp ⟨rfl, pre', h3, hj⟩ hK
    have HF : Hid (∃ pre' : List (EX N), pre'.map (·.1.1) = List.range pre'.length ∧ Jx pre' (W1.putObj D (.deferred none))) := ⟨pre', h3, HJX.out.putObj _ hj (by omega) hK rfl⟩
    clear hj
    gi_wp2_with fail
    refine ⟨by simp, .inl ⟨_, _, rfl, run_takeDeferred hK, ?_⟩⟩
    refine ⟨.tuple #[], results_none rfl _ _ _, ?_⟩
    exact ⟨⟨_, rfl⟩, .inr HF.out⟩
end Go.Proofs.Ytaflpeajapdkdaa
