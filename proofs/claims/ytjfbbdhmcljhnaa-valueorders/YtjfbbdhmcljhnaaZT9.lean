import Derived.Test.YtjfbbdhmcljhnaaZT8
namespace Go.Proofs.Ytjfbbdhmcljhnaa
open Go.RowKit Go.Maps Go.Sort Go.Shelf
set_option linter.unusedVariables false
set_option linter.unusedSimpArgs false
attribute [local go_sem] Oper.semAt_some
attribute [local go_sem ↓] appOpV_eq

/-- what gathered hands back -/
structure GaR (w w' : World) (ky : Nat → ByteArray) (c : Nat → Fin 5 → Value) (M : Nat) (vi vk : Value) : Prop where
  below : Below w.heap.size w w'
  keys : w'.ownsRow w.heap.size 9 1 vk M (kyL ky (List.range M))
  items : w'.ownsRow w.heap.size 25 5 vi M (flL c (List.range M))

set_option maxRecDepth 100000 in
set_option maxHeartbeats 6400000 in
theorem w_gathered (gf : Nat) (lb : Array Value) (M : Nat) (ky : Nat → ByteArray) (c : Nat → Fin 5 → Value) (w : World) (hone : ∀ i, i < M → OneC (c i)) (hM : M ≤ 10001)
    (eg : ∀ args w, (callFunc gf args).run Try.prog w = .ok (.enter gf args) w)
    (hseq : ∀ W, Below w.heap.size w W → (∀ b, ¬ rwAt W (w.heap.size + 1) b) → w.heap.size + 1 < W.heap.size → SeqStopsK Fence.wide 6 Try.prog gf lb (fun x : { i : Nat // i < M } => encK ky c x.1) (KpG w.heap.size (w.heap.size + 1)) (fun xs => xs.map (·.1) = List.range M) (fun _ => True) M W) :
    Calls Try.prog 51 #[.func (.func gf) #[] lb] w fun e w' => ∃ io ic ko kc, e = .returned (.agg #[.int .i64 6, .string ⟨#[]⟩, .string ⟨#[]⟩, .slice io M ic, .slice ko M kc]) ∧ Hid (GaR w w' ky c M (.slice io M ic) (.slice ko M kc)) := by
  obtain ⟨i0, hi0, hz0, hz1, hz2⟩ := info_parts Try.infoV
  obtain ⟨j0, hj0, hy0, hy1, hy2⟩ := info_parts Try.infoSt
  have HO := Hid.mk hone
  have HSq := Hid.mk hseq
  clear hone hseq
  refine (callsIn_wide (n := 7)).1 ?_
  refine callsIn_of_wp_marks Try.func51 rfl trivial ?_ rfl
  simp only [Try.ntmps51, List.size_toArray, List.length_cons, List.length_nil, Nat.reduceAdd, Nat.reduceSub, Array.replicate_succ, Array.replicate_zero, List.push_toArray, List.append_toArray, List.nil_append, List.cons_append]
  gi_wp2_with fail
  obtain ⟨W0, hW0⟩ : ∃ W0, ((w.alloc (.cells #[.int .i64 0, .string ⟨#[]⟩, .string ⟨#[]⟩, .slice none 0 0, .slice none 0 0] 25)).alloc (.cells #[.int .i64 6, .string ⟨#[]⟩, .string ⟨#[]⟩, .slice none 0 0, .slice none 0 0] 25)) = W0 := ⟨_, rfl⟩
  have hsz0 : W0.heap.size = w.heap.size + 2 := by rw [← hW0]; simp
  have hb0 : Below w.heap.size w W0 := by rw [← hW0]; exact below2 w _ _
  have hG0 : GaS w (w.heap.size + 1) ky c [] [] (.slice none 0 0) (.slice none 0 0) W0 := by
    refine ⟨hb0, ?_, ?_, World.ownsRow_nil _ _ _ _, World.ownsRow_nil _ _ _ _⟩
    · rw [← hW0, Below.heap_alloc _ _ _ (by simp), heap_alloc_new]
    · rw [← hW0, show w.heap.size + 1 = (w.alloc (.cells #[.int .i64 0, .string ⟨#[]⟩, .string ⟨#[]⟩, .slice none 0 0, .slice none 0 0] 25)).heap.size from by simp, heap_alloc_new]
  have hrw0 : ∀ b, ¬ rwAt W0 (w.heap.size + 1) b := by
    rintro b ⟨v, hv | hv, e⟩
    · rw [cell_of_row _ _ 3 _ _ _ hG0.out] at hv; cases hv; cases e
    · rw [cell_of_row _ _ 4 _ _ _ hG0.out] at hv; cases hv; cases e
  have HI0 : Hid (GaI w ky c ([] : List { i : Nat // i < M }) W0) := ⟨_, _, hG0⟩
  have HS0 := Hid.mk (HSq.out W0 hb0 hrw0 (by omega))
  rw [hW0]
  clear hW0 hG0 hrw0 hb0 HSq
  refine wpIn_rangeFunc_ownH rfl (by omega) (gf := gf) (lb := lb) rfl trivial eg
    HS0.out (fun h k => h.trans k) (KpG.put (by omega) (by omega)) (Below.refl _ _) (fun _ => rfl)
    (GaI w ky c) (fun _ _ _ => False) (GaI.own (by omega)) (fun _ _ _ _ _ hs _ _ => hs) HI0.out
    (fun x a' W => ∃ Bx, Bx ≠ w.heap.size + 1 ∧ IBox W Bx (c x.1) ∧ a' = { tmps := #[.func (.func gf) #[] lb, undef, .pointer (some ⟨w.heap.size, 0, none⟩), .pointer (some ⟨w.heap.size + 1, 0, none⟩), .string (ky x.1), .pointer (some ⟨Bx, 0, none⟩), .agg #[.int .i64 6, .string ⟨#[]⟩, .string ⟨#[]⟩, .slice none 0 0, .slice none 0 0], .func (.func gf) #[] lb, .string (ky x.1), .agg #[c x.1 0, c x.1 1, c x.1 2, c x.1 3, c x.1 4], undef, undef, undef, undef, undef, undef, undef, undef, undef, undef, undef, undef, undef, undef, undef], defers := [] })
    (fun x a' _ X Y row hs hg hr => by
      obtain ⟨Bx, h1, h2, h3⟩ := hs
      exact ⟨Bx, h1, ibox_own _ Bx (c x.1) () X Y row h2 hg hr, h3⟩)
    ?assign ?body ?done ?stop
  case assign =>
    rintro l pre x W KK hI hKK
    obtain ⟨ik, inm, itx, iio, iN, iicap, iko, iK, ikcap, o0, o1, o2, o3, o4⟩ := HO.out x.1 x.2
    have hIb : IBox (W.alloc (.cells #[c x.1 0, c x.1 1, c x.1 2, c x.1 3, c x.1 4] 25)) W.heap.size (c x.1) := ⟨World.alloc_heap_new W _⟩
    obtain ⟨vi, vk, hG⟩ := hI
    have hBl := (Array.getElem?_eq_some_iff.1 hG.out).1
    have hI2 : GaI w ky c pre (W.alloc (.cells #[c x.1 0, c x.1 1, c x.1 2, c x.1 3, c x.1 4] 25)) := (GaI.own (C := w.heap.size) (Nat.le_refl _)) pre W _ none ⟨vi, vk, hG⟩ ⟨rfl, rfl, rfl, by simp, fun b hb _ => Below.heap_alloc _ _ b hb⟩ (fun r e => by cases e)
    unfold encK
    dsimp only
    have FIN := hKK { tmps := #[.func (.func gf) #[] lb, undef, .pointer (some ⟨w.heap.size, 0, none⟩), .pointer (some ⟨w.heap.size + 1, 0, none⟩), .string (ky x.1), .pointer (some ⟨W.heap.size, 0, none⟩), .agg #[.int .i64 6, .string ⟨#[]⟩, .string ⟨#[]⟩, .slice none 0 0, .slice none 0 0], .func (.func gf) #[] lb, .string (ky x.1), .agg #[c x.1 0, c x.1 1, c x.1 2, c x.1 3, c x.1 4], undef, undef, undef, undef, undef, undef, undef, undef, undef, undef, undef, undef, undef, undef, undef], defers := [] } _ ((KeepsOthers.alloc _ _).from _) (KpG.of_below hG.below.size hBl (below1 W _)) hI2 ⟨W.heap.size, by omega, hIb, rfl⟩
    rw [o0, o1, o2, o3, o4] at FIN ⊢
    clear hKK hIb hI2 hG
    gi_wp2_with fail
    exact FIN
  case body =>
    rintro l pre x a' W hl ⟨r, hr⟩ ⟨vi, vk, hG⟩ ⟨Bx, hBx, bX, rfl⟩ hlt
    obtain ⟨c0, c1, c2, c3, c4⟩ := bX.cell
    obtain ⟨ik, inm, itx, iio, iN, iicap, iko, iK, ikcap, o0, o1, o2, o3, o4⟩ := HO.out x.1 x.2
    obtain ⟨ko0, kc0, hvk⟩ := own_shapeV hG.keys
    obtain ⟨io0, ic0, hvi⟩ := own_shapeV hG.items
    rw [o0] at c0; rw [o1] at c1; rw [o2] at c2; rw [o3] at c3; rw [o4] at c4
    have hpl : (pre.map (·.1)).length < M := by rw [List.length_map]; exact hlt
    have hbW := hG.below.size
    have hBl := (Array.getElem?_eq_some_iff.1 hG.out).1
    obtain ⟨L, hL⟩ : ∃ L, L = pre.map (·.1) := ⟨_, rfl⟩
    have HL : Hid ((pre ++ [x]).map (·.1) = L ++ [x.1]) := by show _ = _; rw [List.map_append, hL]; rfl
    rw [← hL] at hG hpl hvk hvi
    have HG := Hid.mk hG
    have HXX : Hid (W.heap[Bx]? = some (.cells #[.int .i64 ik, .string inm, .string itx, .slice iio iN iicap, .slice iko iK ikcap] 25 (0, 0))) := by
      have := bX.row
      rw [o0, o1, o2, o3, o4] at this
      exact this
    subst hvk hvi
    have k4 := cell_of_row _ _ 4 _ _ _ hG.out
    have hGk := hG.keys
    have OC := Hid.mk (And.intro o0 (And.intro o1 (And.intro o2 (And.intro o3 o4))))
    generalize hLn : L.length = n at *
    have HLn := Hid.mk hLn
    clear hG hL hLn hr bX o0 o1 o2 o3 o4 c0 c1 c2 c3 c4
    gi_wp2_with (gi_at_builtin; refine wpListIn_append_own_at _ (by rfl) _ _ 23 (by rfl) (w.heap.size + 2) 9 j0 (.string ⟨#[]⟩) 1 16 Try.underlying23 hj0 hy0 hy1 hy2 rfl (by decide) _ _ _ (by rfl) (hGk.alloc _) ⟨W.heap.size, 0, none⟩ 1 1 [.string (ky x.1)] (by rfl) (by rfl) (cell_one_new W _ _) (by simp [Value.oneCell']) (by unfold maxLen; omega) (by omega) (by simp; omega) ?_)
    intro vk' w4 hown4 hgrow4 hnil4 hat4
    obtain ⟨gk, ck, hvk'⟩ := own_succV hown4
    subst hvk'
    obtain ⟨hG5, hF5, ho4⟩ := GaS.keysUp (x := x.1) rfl HG.out hgrow4 (by rw [HLn.out]; exact hown4) (by simpa using hat4)
    obtain ⟨W5, hW5⟩ : ∃ W5, w4.setCell ⟨w.heap.size + 1, 4, none⟩ (.slice (some ⟨gk, 0, none⟩) (n + 1) ck) = W5 := ⟨_, rfl⟩
    have b4 := cell_of_row _ _ 4 _ _ _ ho4
    have f4 := frozen_row (j := 4) ho4
    have HW5 := Hid.mk hW5
    rw [hW5] at hG5 hF5
    have HG5 := Hid.mk hG5
    have HF5 := Hid.mk hF5
    have hxb : W5.heap[Bx]? = some (.cells #[.int .i64 ik, .string inm, .string itx, .slice iio iN iicap, .slice iko iK ikcap] 25 (0, 0)) := by
      refine (hF5.block Bx (Array.getElem?_eq_some_iff.1 HXX.out).1 ?_).trans HXX.out
      rintro (e | e)
      · exact hBx e
      · obtain ⟨cur, h1, _⟩ := own_isCells hGk e
        rw [HXX.out] at h1; simp at h1
    have hxl := (Array.getElem?_eq_some_iff.1 hxb).1
    have x0 := cell_of_row _ _ 0 _ _ _ hxb
    have x1 := cell_of_row _ _ 1 _ _ _ hxb
    have x2 := cell_of_row _ _ 2 _ _ _ hxb
    have x3 := cell_of_row _ _ 3 _ _ _ hxb
    have x4 := cell_of_row _ _ 4 _ _ _ hxb
    have m3 := cell_of_row _ _ 3 _ _ _ hG5.out
    have hB5 := (Array.getElem?_eq_some_iff.1 hG5.out).1
    have xa : ∀ j v o, W5.cell? ⟨Bx, j, none⟩ = some v → (W5.alloc o).cell? ⟨Bx, j, none⟩ = some v := fun j v o e => ((below1 W5 o).cell (p := ⟨_, _, _⟩) hxl).trans e
    have y0 := fun o => xa 0 _ o x0
    have y1 := fun o => xa 1 _ o x1
    have y2 := fun o => xa 2 _ o x2
    have y3 := fun o => xa 3 _ o x3
    have y4 := fun o => xa 4 _ o x4
    have m3a : ∀ o, (W5.alloc o).cell? ⟨w.heap.size + 1, 3, none⟩ = some (.slice io0 n ic0) := fun o => ((below1 W5 o).cell (p := ⟨_, _, _⟩) hB5).trans m3
    have hb5 := hG5.below.size
    have hit := hG5.items
    rw [HLn.out] at hit
    obtain ⟨v', w6, hrun, hown6, hgrow6, hnil6, hat6⟩ := run_append_own_at (P := Try.prog) (W5.drew.alloc (.cells #[.int .i64 0, .string ⟨#[]⟩, .string ⟨#[]⟩, .slice none 0 0, .slice none 0 0] 25)) (w.heap.size + 2) 22 22 25 i0 (.agg #[.int .i64 0, .string ⟨#[]⟩, .string ⟨#[]⟩, .slice none 0 0, .slice none 0 0]) 5 88 Try.underlying22 hi0 hz0 hz1 hz2 rfl (by decide) (.slice io0 n ic0) n (flL c L) (World.ownsRow.alloc (w := W5.drew) hit _) ⟨W5.heap.size, 0, none⟩ 1 1 [.int .i64 0, .string ⟨#[]⟩, .string ⟨#[]⟩, .slice none 0 0, .slice none 0 0] rfl (new5 (heap_alloc_new W5.drew _)) (by intro u hu; simp at hu; rcases hu with rfl | rfl | rfl | rfl | rfl <;> rfl) (by unfold maxLen; omega) (by omega) (by show w.heap.size + 2 ≤ (W5.drew.alloc _).heap.size; rw [World.size_alloc]; show w.heap.size + 2 ≤ W5.heap.size + 1; omega)
    obtain ⟨g', cap', hv'⟩ := own_succV hown6
    subst hv'
    have hat6' : (Value.slice io0 n ic0).ownBlock = some g' ∨ W5.heap.size + 1 = g' := by
      rcases hat6 with e | e
      · exact .inl e.symm
      · right
        have e2 : some g' = some ((W5.drew.alloc (.cells #[.int .i64 0, .string ⟨#[]⟩, .string ⟨#[]⟩, .slice none 0 0, .slice none 0 0] 25)).heap.size) := e
        have e3 := Option.some.inj e2
        rw [World.size_alloc] at e3
        exact e3.symm
    obtain ⟨W8, hW8⟩ : ∃ W8, (((((w6.setCell ⟨g', n * 5, none⟩ (c x.1 0)).setCell ⟨g', n * 5 + 1, none⟩ (c x.1 1)).setCell ⟨g', n * 5 + 2, none⟩ (c x.1 2)).setCell ⟨g', n * 5 + 3, none⟩ (c x.1 3)).setCell ⟨g', n * 5 + 4, none⟩ (c x.1 4)).setCell ⟨w.heap.size + 1, 3, none⟩ (.slice (some ⟨g', 0, none⟩) (n + 1) cap') = W8 := ⟨_, rfl⟩
    obtain ⟨hG8, hF8, ho6⟩ := GaS.itemsUp (W8 := W8) (o := .cells #[.int .i64 0, .string ⟨#[]⟩, .string ⟨#[]⟩, .slice none 0 0, .slice none 0 0] 25) (g := g') (cap := cap') rfl hG5 ⟨hgrow6.os, hgrow6.tape, hgrow6.output, hgrow6.size, hgrow6.block⟩ (by rw [HLn.out]; exact hown6) hat6' (by rw [HLn.out]; exact hW8.symm)
    have FIN : Hid (KeepsFrom W0.heap.size W W8 ∧ KpG w.heap.size (w.heap.size + 1) W W8 ∧ GaI w ky c (pre ++ [x]) W8) := by
      have hfar : Far (fun b => b = w.heap.size + 1 ∨ (Value.slice io0 n ic0).ownBlock = some b ∨ (Value.slice ko0 n kc0).ownBlock = some b ∨ W.heap.size ≤ b) W W8 := by
        refine (hF5.mono (fun b hb => ?_)).trans (hF8.mono (fun b hb => ?_))
        · rcases hb with h | h
          · exact .inl h
          · exact .inr (.inr (.inl h))
        · rcases hb with h | h | h
          · exact .inl h
          · exact .inr (.inl h)
          · exact .inr (.inr (.inr (Nat.le_trans hF5.size h)))
      obtain ⟨hK, hKF⟩ := kpG_far (X := fun b => b = w.heap.size + 1 ∨ (Value.slice io0 n ic0).ownBlock = some b ∨ (Value.slice ko0 n kc0).ownBlock = some b ∨ W.heap.size ≤ b) (by omega) HG.out hG8 hfar (fun b hb hx => by
          rcases hx with h | h | h | h
          · exact .inl h
          · exact .inr (.inl h)
          · exact .inr (.inr h)
          · omega) (fun g e => by
          have e2 : g = g' := (Option.some.inj e).symm
          subst e2
          rcases hat6' with h | h
          · exact .inl h
          · right; have := hF5.size; omega) (fun g e => by
          rcases hat4 with h | h
          · exact .inl (h.symm.trans e)
          · right
            have e2 := e.symm.trans h
            have e3 := Option.some.inj e2
            (try rw [World.size_alloc] at e3)
            omega)
      exact ⟨hKF _, hK, _, _, by rw [HL.out]; exact hG8⟩
    have z0 : w6.cell? ⟨g', n * 5, none⟩ = some (.int .i64 0) := by
      rw [own_cellAt hown6 (by omega), List.getElem?_append_right (by rw [hit.1]; omega), hit.1]; simp
    have z1 : w6.cell? ⟨g', n * 5 + 1, none⟩ = some (.string ⟨#[]⟩) := by
      rw [own_cellAt hown6 (by omega), List.getElem?_append_right (by rw [hit.1]; omega), hit.1]; simp
    have z2 : w6.cell? ⟨g', n * 5 + 2, none⟩ = some (.string ⟨#[]⟩) := by
      rw [own_cellAt hown6 (by omega), List.getElem?_append_right (by rw [hit.1]; omega), hit.1]; simp
    have z3 : w6.cell? ⟨g', n * 5 + 3, none⟩ = some (.slice none 0 0) := by
      rw [own_cellAt hown6 (by omega), List.getElem?_append_right (by rw [hit.1]; omega), hit.1]; simp
    have z4 : w6.cell? ⟨g', n * 5 + 4, none⟩ = some (.slice none 0 0) := by
      rw [own_cellAt hown6 (by omega), List.getElem?_append_right (by rw [hit.1]; omega), hit.1]; simp
    have zf : ∀ j, w6.frozen? ⟨g', j, none⟩ = false := fun j => by
      obtain ⟨cur, h1, _⟩ := own_isCells hown6 rfl
      exact frozen_row h1
    have q3 := cell_of_row _ _ 3 _ _ _ ho6
    have qf := frozen_row (j := 3) ho6
    have hgB : g' ≠ w.heap.size + 1 := by
      rcases hat6' with h | h
      · obtain ⟨_, _, h2⟩ := own_isCells hit h; omega
      · omega
    have hrun' : (appOpV #[22, 22] 22 #[.slice io0 n ic0, .slice (some ⟨W5.heap.size, 0, none⟩) 1 1]).run Try.prog (W5.alloc (.cells #[.int .i64 0, .string ⟨#[]⟩, .string ⟨#[]⟩, .slice none 0 0, .slice none 0 0] 25)).drew = .ok (.slice (some ⟨g', 0, none⟩) (n + 1) cap') w6 := hrun
    obtain ⟨p0, p1, p2, p3, p4⟩ := OC.out
    rw [p0, p1, p2, p3, p4] at hW8
    have HW8 := Hid.mk hW8
    have hmx : Try.prog.follows .mixedOrders = true := by kernel_rfl
    have hn1 : (n : Int) < (n : Int) + 1 := by omega
    clear hW8 hrun hown6 hgrow6 hnil6 hat6 hat6' hG8 hF8 ho6 hG5 hF5 hown4 hgrow4 hnil4 hat4 ho4 hxb hit hGk p0 p1 p2 p3 p4 xa
    gi_wp2_with fail
    gi_region_with_o fail
    all_goals gi_wp2_with fail
    all_goals first | (rw [HW8.out]; exact FIN.out) | (rw [setCell_comm5 _ _ _ (fun e => hgB e.symm), HW8.out]; exact FIN.out)
  case done =>
    rintro D zs W hD hz ⟨vi, vk, hG⟩ hK
    obtain ⟨ko0, kc0, hvk⟩ := own_shapeV hG.keys
    obtain ⟨io0, ic0, hvi⟩ := own_shapeV hG.items
    have hzz : zs.map (·.1) = List.range M := hz
    rw [hzz] at hG hvk hvi
    rw [List.length_range] at hvk hvi
    subst hvk hvi
    have l0 := cell_of_row _ _ 0 _ _ _ hG.out
    have l1 := cell_of_row _ _ 1 _ _ _ hG.out
    have l2 := cell_of_row _ _ 2 _ _ _ hG.out
    have l3 := cell_of_row _ _ 3 _ _ _ hG.out
    have l4 := cell_of_row _ _ 4 _ _ _ hG.out
    have r0 := cell_of_row _ _ 0 _ _ _ hG.res
    have r1 := cell_of_row _ _ 1 _ _ _ hG.res
    have r2 := cell_of_row _ _ 2 _ _ _ hG.res
    have r3 := cell_of_row _ _ 3 _ _ _ hG.res
    have r4 := cell_of_row _ _ 4 _ _ _ hG.res
    have fr : ∀ j, W.frozen? ⟨w.heap.size, j, none⟩ = false := fun j => frozen_row hG.res
    have HG := Hid.mk hG
    obtain ⟨wz, hwz⟩ : ∃ wz, ((((W.setCell ⟨w.heap.size, 0, none⟩ (.int .i64 6)).setCell ⟨w.heap.size, 1, none⟩ (.string ⟨#[]⟩)).setCell ⟨w.heap.size, 2, none⟩ (.string ⟨#[]⟩)).setCell ⟨w.heap.size, 3, none⟩ (.slice io0 M ic0)).setCell ⟨w.heap.size, 4, none⟩ (.slice ko0 M kc0) = wz := ⟨_, rfl⟩
    obtain ⟨zb, zo, zs', zbl⟩ := set5 W (w.heap.size) _ _ _ _ _ _ _ _ _ _ _ hG.res wz hwz.symm
    have z0 := cell_of_row _ _ 0 _ _ _ zb
    have z1 := cell_of_row _ _ 1 _ _ _ zb
    have z2 := cell_of_row _ _ 2 _ _ _ zb
    have z3 := cell_of_row _ _ 3 _ _ _ zb
    have z4 := cell_of_row _ _ 4 _ _ _ zb
    have hDne : D ≠ w.heap.size := by rintro rfl; rw [hG.res] at hK; cases hK
    have hKz : wz.heap[D]? = some (.deferred (some [])) := (zo D hDne).trans hK
    have FIN : Hid (GaR w (wz.putObj D (.deferred none)) ky c M (.slice io0 M ic0) (.slice ko0 M kc0)) := by
      have ot : ∀ b cs t f, W.heap[b]? = some (.cells cs t f) → b ≠ w.heap.size → (wz.putObj D (.deferred none)).heap[b]? = W.heap[b]? := fun b cs t f hb hne => by
        rw [World.putObj_heap_other (by rintro rfl; rw [hb] at hK; cases hK)]
        exact zo b hne
      have mo : ∀ {e size v n xs}, W.ownsRow (w.heap.size + 2) e size v n xs → (wz.putObj D (.deferred none)).ownsRow w.heap.size e size v n xs := fun {e size v n xs} h => by
        have h1 : W.ownsRow w.heap.size e size v n xs := ⟨h.1, h.2.imp id (fun ⟨g, cap, cur, e1, e2, rest⟩ => ⟨g, cap, cur, e1, by omega, rest⟩)⟩
        refine own_blk h1 fun g hg => ?_
        obtain ⟨cur, h2, h3⟩ := own_isCells h hg
        exact ot g _ _ _ h2 (by omega)
      have hk := mo HG.out.keys
      have hi := mo HG.out.items
      rw [List.length_range] at hk hi
      refine ⟨?_, hk, hi⟩
      exact (HG.out.below.trans (zbl _ (Nat.le_refl _))).trans (belowK_b (w := w) (Nat.le_refl _) wz D _ _ (by omega) hKz rfl rfl)
    clear hG zb zo zbl hzz hz
    gi_wp2_with fail
    refine ⟨by simp, .inl ⟨_, _, rfl, run_takeDeferred hKz, ?_⟩⟩
    have zp : ∀ j v, wz.cell? ⟨w.heap.size, j, none⟩ = some v → (wz.putObj D (.deferred none)).cell? ⟨w.heap.size, j, none⟩ = some v := fun j v e => (World.cell?_of_block (a := ⟨w.heap.size, j, none⟩) (World.putObj_heap_other (fun e => hDne e.symm))).trans e
    have q0 := zp 0 _ z0
    have q1 := zp 1 _ z1
    have q2 := zp 2 _ z2
    have q3 := zp 3 _ z3
    have q4 := zp 4 _ z4
    generalize wz.putObj D (.deferred none) = wq at *
    refine ⟨.agg #[.int .i64 6, .string ⟨#[]⟩, .string ⟨#[]⟩, .slice io0 M ic0, .slice ko0 M kc0], by simp [results, Try.results51, go_sem, q0, q1, q2, q3, q4], ?_⟩
    exact ⟨_, _, _, _, rfl, FIN⟩
  case stop =>
    rintro D cc pre W _ _ h _
    exact h.elim
end Go.Proofs.Ytjfbbdhmcljhnaa
