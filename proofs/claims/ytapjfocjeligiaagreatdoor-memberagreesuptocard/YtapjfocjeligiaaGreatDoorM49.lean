import Derived.Test.YtapjfocjeligiaaGreatDoorM47
import Derived.Test.YtapjfocjeligiaaGreatDoorM48
import Derived.Test.YtapjfocjeligiaaGreatDoorM5
import Derived.Maps.AppendAt
import Derived.RangeFuncRecord
import Derived.Deep.AppendLies
import Derived.BigQuiet
import Derived.Lib.QuietBelow
namespace Go.Proofs.YtapjfocjeligiaaGreatDoor
open Go.RowKit Go.Shelf Go.Sort
set_option linter.unusedVariables false
set_option linter.unusedSimpArgs false
attribute [local go_sem] Oper.semAt_some

theorem Tryz.infoVm : (Tryz.prog.info? 37).map (fun i => (i.zero, i.size, i.bytes)) = some (some (.agg #[.int .i64 0, .string ⟨#[]⟩, .string ⟨#[]⟩, .slice none 0 0, .slice none 0 0]), 5, 88) := by kernel_rfl
/-- a step's cells -/
def cellS (s : VT) : List Value := [.int .i64 s.kind, .string s.num, .string s.text, .slice none 0 0, .slice none 0 0]
def flatS (l : List VT) : List Value := l.flatMap cellS
theorem flatS_up (l : List VT) (s : VT) : flatS (l ++ [s]) = flatS l ++ cellS s := by unfold flatS; rw [List.flatMap_append]; simp
theorem flatS_len : ∀ l : List VT, (flatS l).length = l.length * 5
  | [] => rfl
  | x :: xs => by
    have ih := flatS_len xs
    show (cellS x ++ flatS xs).length = _
    rw [List.length_append, ih]; simp [cellS]; omega
theorem flatS_at : ∀ (l : List VT) (i : Nat) (hi : i < l.length) (j : Nat), j < 5 → (flatS l)[i * 5 + j]? = (cellS l[i])[j]?
  | [], i, hi, _, _ => absurd hi (Nat.not_lt_zero _)
  | x :: xs, 0, _, j, hj => by
    show (cellS x ++ flatS xs)[0 * 5 + j]? = _
    rw [List.getElem?_append_left (by simp [cellS]; omega), Nat.zero_mul, Nat.zero_add]; rfl
  | x :: xs, i + 1, hi, j, hj => by
    have ih := flatS_at xs i (by simpa using hi) j hj
    show (cellS x ++ flatS xs)[(i + 1) * 5 + j]? = _
    rw [List.getElem?_append_right (by simp [cellS]; omega), show (i + 1) * 5 + j - (cellS x).length = i * 5 + j from by simp [cellS]; omega, ih]
    rfl
/-- such a row is one of leaves -/
theorem steps_in {w : World} {lo k cap : Nat} {io : Option Addr} {l : List VT} (h : w.ownsRow lo 37 5 (.slice io k cap) k (flatS l)) (hk : l.length = k) (hs : ∀ s ∈ l, StO s) : IIn w 1 io l ∧ k ≤ cap := by
  rcases h.2 with ⟨h1, h2⟩ | ⟨g, cap', cur, h1, hlo, hb, hc, _, _, _⟩
  · simp only [Value.slice.injEq] at h1
    obtain ⟨rfl, _, rfl⟩ := h1
    exact ⟨⟨fun h0 => by omega⟩, by omega⟩
  · simp only [Value.slice.injEq] at h1
    obtain ⟨rfl, _, rfl⟩ := h1
    refine ⟨⟨fun h0 => ⟨g, 0, rfl, ?_, fun i hi => ?_⟩⟩, hc⟩
    · rcases Nat.lt_or_ge g w.heap.size with h3 | h3
      · exact h3
      · rw [Array.getElem?_eq_none h3] at hb; cases hb
    · have hc : ∀ j, j < 5 → w.cell? ⟨g, i * 5 + j, none⟩ = (cellS l[i])[j]? := fun j hj => by
        rw [own_cellAt h (by omega)]; exact flatS_at l i hi j hj
      obtain ⟨s1, s2, s3, s4⟩ := hs _ (List.getElem_mem hi)
      refine ⟨.int .i64 l[i].kind, .string l[i].num, .string l[i].text, .slice none 0 0, .slice none 0 0, ⟨?_, ?_, ?_, ?_, ?_⟩, ?_⟩
      · rw [Nat.zero_add]; exact hc 0 (by omega)
      · rw [Nat.zero_add]; exact hc 1 (by omega)
      · rw [Nat.zero_add]; exact hc 2 (by omega)
      · rw [Nat.zero_add]; exact hc 3 (by omega)
      · rw [Nat.zero_add]; exact hc 4 (by omega)
      · refine ⟨none, 0, none, 0, by rw [s1, s2]; rfl, s3, s4, by rw [s1]; exact Nat.zero_le _, by rw [s2]; exact Nat.zero_le _, by rw [s1]; exact Nat.le_refl _, by rw [s2]; exact Nat.le_refl _, fun k hk => (by rw [s2] at hk; cases hk), ⟨fun h0 => by rw [s2] at h0; exact absurd h0 (Nat.not_lt_zero _)⟩, fun h0 => by rw [s1] at h0; exact absurd h0 (Nat.not_lt_zero _)⟩
theorem ErC.steps {W : World} : ∀ {p : List VT} {r : Int} {t : TypeId} {b : Nat}, ErC W p r t b → ∀ s ∈ p, StO s
  | [], _, _, _, _ => fun s hs => by cases hs
  | s :: p, _, _, _, ⟨_, _, _, _, ⟨h, _⟩, _, _, h7⟩ => fun x hx => by
    rcases List.mem_cons.1 hx with rfl | hx
    · exact h
    · exact ErC.steps h7 x hx
/-- while told goes on: the misfit's box, the other one's, the way so far -/
structure TdS (w : World) (lo B2 c : Nat) (r : Int) (done : List VT) (p : Value) (wr : World) : Prop where
  below : Below w.heap.size w wr
  m : wr.heap[w.heap.size]? = some (.cells #[.pointer (some ⟨c, 0, none⟩)] 77 (0, 0))
  a : ∃ x, wr.heap[B2]? = some (.cells #[x] 80 (0, 0))
  lf : wr.cell? ⟨c, 0, none⟩ = some (.int .i64 r)
  row : wr.ownsRow lo 37 5 p done.length (flatS done)
  b1 : w.heap.size < B2
  b2 : B2 < lo
  b3 : lo ≤ wr.heap.size
  cl : c < B2
theorem own_keepS {W W' : World} {B : Nat} {e : TypeId} {size : Nat} {v : Value} {n : Nat} {xs : List Value} (h : W.ownsRow B e size v n xs) (hb : ∀ b, B ≤ b → b < W.heap.size → W'.heap[b]? = W.heap[b]?) : W'.ownsRow B e size v n xs := by
  refine ⟨h.1, ?_⟩
  rcases h.2 with h1 | ⟨g, cap, cur, h1, h2, h3, h4⟩
  · exact .inl h1
  · refine .inr ⟨g, cap, cur, h1, h2, ?_, h4⟩
    rw [hb g h2 ?_]
    · exact h3
    · rcases Nat.lt_or_ge g W.heap.size with h5 | h5
      · exact h5
      · rw [Array.getElem?_eq_none h5] at h3; cases h3
theorem own_baseS {w : World} {base : Nat} {e : TypeId} {size : Nat} {v : Value} {n : Nat} {xs : List Value} (h : w.ownsRow base e size v n xs) : ∀ k, v.ownBlock = some k → base ≤ k := by
  intro k hk
  obtain ⟨_, ⟨rfl, _⟩ | ⟨g, cap, cur, rfl, hg, _⟩⟩ := h
  · cases hk
  · simp [Value.ownBlock] at hk; omega
theorem own_shapeS {w : World} {base : Nat} {e : TypeId} {size : Nat} {v : Value} {n : Nat} {xs : List Value} (h : w.ownsRow base e size v n xs) : ∃ ao cap, v = .slice ao n cap := by
  rcases h.2 with ⟨e, e2⟩ | ⟨g, cap, cur, e, _⟩
  · exact ⟨none, 0, by rw [e, e2]⟩
  · exact ⟨_, _, e⟩
theorem cell_heap {u v : World} {b j : Nat} (h : v.heap[b]? = u.heap[b]?) : v.cell? ⟨b, j, none⟩ = u.cell? ⟨b, j, none⟩ := by
  unfold World.cell?
  simp only [h]
theorem set_oth {u : World} {B b i : Nat} {v : Value} (h : b ≠ B) : (u.setCell ⟨B, i, none⟩ v).heap[b]? = u.heap[b]? := by
  show (u.heap.modify B _)[b]? = _
  rw [Array.getElem?_modify, if_neg (fun e => h e.symm)]
theorem set_one {u : World} {B : Nat} {x v : Value} {t : TypeId} (h : u.heap[B]? = some (.cells #[x] t (0, 0))) : (u.setCell ⟨B, 0, none⟩ v).heap[B]? = some (.cells #[v] t (0, 0)) := by
  show (u.heap.modify B _)[B]? = _
  rw [Array.getElem?_modify, if_pos rfl, h]; rfl
theorem lt_row {w : World} {B : Nat} {x : Obj} (h : w.heap[B]? = some x) : B < w.heap.size := by
  rcases Nat.lt_or_ge B w.heap.size with h1 | h1
  · exact h1
  · rw [Array.getElem?_eq_none h1] at h; cases h
theorem TdS.asw {w : World} {lo B2 c : Nat} {r : Int} {done : List VT} {p : Value} {wr W : World} (h : TdS w lo B2 c r done p wr) (hb : Below wr.heap.size wr W) (v : Value) : TdS w lo B2 c r done p (W.setCell ⟨B2, 0, none⟩ v) ∧ (W.setCell ⟨B2, 0, none⟩ v).heap[B2]? = some (.cells #[v] 80 (0, 0)) := by
  obtain ⟨x, hx⟩ := h.a
  have h1 := h.b1
  have h2 := h.b2
  have h3 := h.b3
  have h4 := h.cl
  have hs := hb.size
  have hx2 : W.heap[B2]? = some (.cells #[x] 80 (0, 0)) := (hb.block _ (by omega)).trans hx
  have h9 : (W.setCell ⟨B2, 0, none⟩ v).heap.size = W.heap.size := by show (W.heap.modify B2 _).size = _; rw [Array.size_modify]
  refine ⟨⟨(h.below.trans (hb.mono h.below.size)).setCell (p := ⟨B2, 0, none⟩) (by show w.heap.size ≤ B2; omega) _, ?_, ⟨v, set_one hx2⟩, ?_, ?_, h1, h2, by omega, h4⟩, set_one hx2⟩
  · rw [set_oth (by omega)]; exact (hb.block _ (lt_row h.m)).trans h.m
  · rw [cell_heap (set_oth (by omega))]; exact (hb.cell (p := ⟨c, 0, none⟩) (by show c < _; omega)).trans h.lf
  · exact own_keepS h.row fun b hb1 hb2 => by rw [set_oth (by omega)]; exact hb.block _ hb2
theorem TdS.app {w : World} {lo B2 c : Nat} {r : Int} {done : List VT} {p v : Value} {wr w4 : World} {o : Obj} {s : VT} (h : TdS w lo B2 c r done p wr) (hown : w4.ownsRow lo 37 5 v (done.length + 1) (flatS done ++ cellS s)) (hg : (wr.alloc o).grownBy w4 p.ownBlock) : TdS w lo B2 c r (done ++ [s]) v w4 ∧ ∀ b, b < lo → w4.heap[b]? = wr.heap[b]? := by
  have h1 := h.b1
  have h2 := h.b2
  have h3 := h.b3
  have h4 := h.cl
  have hsz := hg.size
  rw [World.size_alloc] at hsz
  have hob := own_baseS h.row
  have old : ∀ b, b < lo → w4.heap[b]? = wr.heap[b]? := fun b hb => (hg.block b (by simp; omega) (fun e => by have := hob b e.symm; omega)).trans (Below.heap_alloc _ _ b (by omega))
  obtain ⟨x, hx⟩ := h.a
  refine ⟨⟨(h.below.alloc (by omega) o).grown hg (by simp; omega) (fun k e => by have := hob k e; omega), ?_, ⟨x, ?_⟩, ?_, ?_, h1, h2, by omega, h4⟩, old⟩
  · rw [old _ (by omega)]; exact h.m
  · rw [old _ (by omega)]; exact hx
  · rw [cell_heap (old c (by omega))]; exact h.lf
  · rw [flatS_up, List.length_append]; exact hown

set_option maxRecDepth 100000 in
set_option maxHeartbeats 6400000 in
theorem w_told_nil (w : World) : Calls Tryz.prog 22 #[.nilIface] w fun e w' => e = .returned (.tuple #[.slice none 0 0, .int .i64 0]) ∧ Below w.heap.size w w' := by
  have HB := Hid.mk (below1 w (.cells #[.pointer none] 77))
  have HC := Hid.mk (fun t u => as_nil t u)
  go_enter Tryz.func22, Tryz.ntmps22
  go_wp2_with fail
  refine (HC.out _ _).mono ?_
  rintro e w2 ⟨rfl, rfl⟩
  go_wp2_with fail
  go_ret2
  exact ⟨rfl, HB.out⟩

set_option maxRecDepth 100000 in
set_option maxHeartbeats 6400000 in
theorem w_told (p : List VT) (r : Int) (t : TypeId) (b : Nat) (w : World) (hc : ErC w p r t b) (hg : ErrT w) (hp : p.length ≤ 1048576) :
    Calls Tryz.prog 22 #[.iface t (.pointer (some ⟨b, 0, none⟩))] w fun e w' => (∃ io cap, e = .returned (.tuple #[.slice io p.length cap, .int .i64 r]) ∧ p.length ≤ cap ∧ IIn w' 1 io p) ∧ Below w.heap.size w w' := by
  obtain ⟨i0, hi0, hz0, hz1, hz2⟩ := info_parts Tryz.infoVm
  have HSO : Hid (∀ s ∈ p, StO s) := ErC.steps hc
  obtain ⟨W1, hW1⟩ : ∃ W1, w.alloc (.cells #[.pointer none] 77) = W1 := ⟨_, rfl⟩
  have hB1 : Below w.heap.size w W1 := by rw [← hW1]; exact below1 w _
  have hd1 : W1.cell? ⟨w.heap.size, 0, none⟩ = some (.pointer none) := by rw [← hW1]; simp [go_sem]
  have hf1 : W1.frozen? ⟨w.heap.size, 0, none⟩ = false := by rw [← hW1]; simp
  have hx1 : W1.heap[w.heap.size]? = some (.cells #[.pointer none] 77 (0, 0)) := by rw [← hW1]; exact World.alloc_heap_new w _
  have HA := Hid.mk (w_As_m p r t b w.heap.size (.pointer none) W1 (hc.keep hB1) (hg.keep hB1) hd1 hf1)
  have HC := Hid.mk hc
  have HG := Hid.mk hg
  have HB1 := Hid.mk hB1
  have HX1 := Hid.mk hx1
  have HP := Hid.mk hp
  clear hc hg hB1 hd1 hf1 hx1 hp
  go_enter Tryz.func22, Tryz.ntmps22
  go_wp2_with fail
  refine HA.out.mono ?_
  rintro e w2 ⟨W, c, rfl, hbW, hw2, hcl, hcc⟩
  have hne : c ≠ w.heap.size := fun e => by
    have h1 := (hbW.cell (p := ⟨w.heap.size, 0, none⟩) (lt_row HX1.out)).trans (cell_of_row _ _ 0 _ _ _ HX1.out)
    rw [e, h1] at hcc
    cases hcc
  have h2x : w2.heap[w.heap.size]? = some (.cells #[.pointer (some ⟨c, 0, none⟩)] 77 (0, 0)) := by
    rw [hw2]; exact set_one ((hbW.block _ (lt_row HX1.out)).trans HX1.out)
  have h2c : w2.cell? ⟨c, 0, none⟩ = some (.int .i64 r) := by rw [hw2, cell_heap (set_oth hne)]; exact hcc
  have h2s : w2.heap.size = W.heap.size := by rw [hw2]; show (W.heap.modify _ _).size = _; rw [Array.size_modify]
  have h2b : Below w.heap.size w w2 := by rw [hw2]; exact (HB1.out.trans (hbW.mono HB1.out.size)).setCell (p := ⟨w.heap.size, 0, none⟩) (Nat.le_refl _) _
  obtain ⟨W3, hW3⟩ : ∃ W3, w2.alloc (.cells #[.pointer none] 80) = W3 := ⟨_, rfl⟩
  have h3b : Below w2.heap.size w2 W3 := by rw [← hW3]; exact below1 w2 _
  have HS : Hid (TdS w (w2.heap.size + 1) w2.heap.size c r [] (.slice none 0 0) W3) := by
    refine ⟨h2b.trans (h3b.mono h2b.size), (h3b.block _ (lt_row h2x)).trans h2x, ⟨.pointer none, by rw [← hW3]; exact World.alloc_heap_new w2 _⟩, (h3b.cell (p := ⟨c, 0, none⟩) (by show c < _; omega)).trans h2c, World.ownsRow_nil _ _ _ _, by have := lt_row h2x; omega, Nat.lt_succ_self _, by rw [← hW3]; simp, by omega⟩
  have HW3 := Hid.mk hW3
  clear hbW hw2 hcl hcc hne h2x h2c h2s h2b h3b hW3
  go_wp2_with fail
  rw [HW3.out]
  clear HW3
  generalize w2.heap.size = B2 at HS ⊢
  generalize B2 + 1 = lo at HS
  go_loopw [0, 2] (fun wrong pv wr => ∃ (done rest : List VT) (t1 : TypeId) (b1 : Nat) (io : Option Addr) (cap : Nat), Hid (done ++ rest = p) ∧ wrong = .iface t1 (.pointer (some ⟨b1, 0, none⟩)) ∧ Hid (ErC w rest r t1 b1) ∧ pv = .slice io done.length cap ∧ Hid (TdS w lo B2 c r done (.slice io done.length cap) wr)) (fun wrong _ _ => blkOf wrong)
  case atStart => exact ⟨[], p, t, b, none, 0, rfl, rfl, HC, rfl, HS⟩
  case round =>
    clear HS
    obtain ⟨done, rest, t1, b1, io, cap, HDR, rfl, HC1, rfl, HS⟩ := hrel
    obtain ⟨x, hx⟩ := HS.out.a
    have hd := cell_of_row _ _ 0 _ _ _ hx
    have hf : wr.frozen? ⟨B2, 0, none⟩ = false := by simp [World.frozen?, hx]
    cases rest with
    | nil =>
      have HN := Hid.mk (w_As_n r t1 b1 B2 x wr (HC1.out.keep HS.out.below) (HG.out.keep HS.out.below) hd hf)
      have HDP : Hid (done = p) := by
        show _ = _
        have := HDR.out
        rwa [List.append_nil] at this
      clear hx hd hf HDR
      go_wp2_with fail
      refine HN.out.mono ?_
      rintro e w5 ⟨rfl, hb5⟩
      have hm5 := (hb5.block _ (lt_row HS.out.m)).trans HS.out.m
      have cm := cell_of_row _ _ 0 _ _ _ hm5
      have cc := (hb5.cell (p := ⟨c, 0, none⟩) (World.block_lt_of_cell? _ _ HS.out.lf)).trans HS.out.lf
      have HF : Hid (IIn w5 1 io p ∧ p.length ≤ cap ∧ done.length = p.length ∧ Below w.heap.size w w5) := by
        have hd := HDP.out
        have hin := steps_in HS.out.row rfl (fun s hs => HSO.out s (by rw [← hd]; exact hs))
        refine ⟨by rw [← hd]; exact hin.1.keep hb5, by rw [← hd]; exact hin.2, by rw [hd], HS.out.below.trans (hb5.mono HS.out.below.size)⟩
      have hlen := HF.out.2.2.1
      have Acm := fun d os => cell_regrown cm d os
      have Acc := fun d os => cell_regrown cc d os
      rw [hlen]
      clear hb5 hm5 hlen
      go_wp2_with fail
      refine wp_region_quiet_below (by kernel_rfl) (by kernel_rfl) ?_
      repeat (go_big_quiet_step (fail))
      refine wpQuiet_nil ?_
      intro w9 hw'
      have HB9 : Hid (Below w5.heap.size w5 w9) := by
        obtain ⟨⟨dq, osq⟩, rfl⟩ := hw'
        exact below_regrown w5 dq osq
      clear hw' cm cc Acm Acc
      go_wp2_with fail
      go_ret2
      exact ⟨⟨io, cap, rfl, HF.out.2.1, HF.out.1.keep HB9.out⟩, HF.out.2.2.2.trans (HB9.out.mono HF.out.2.2.2.size)⟩
    | cons s rest =>
      have HW := Hid.mk (w_As_w s rest r t1 b1 B2 x wr (HC1.out.keep HS.out.below) (HG.out.keep HS.out.below) hd hf)
      obtain ⟨t2, b2, rfl, hl, ⟨hso, s0, s1, s2, s3, s4⟩, h5, hlt, h7⟩ := HC1.out
      have HC2 := Hid.mk h7
      have HL : Hid (done.length + 1 ≤ 1048576) := by
        show _ ≤ _
        have h1 := HDR.out
        have h2 := HP.out
        rw [← h1, List.length_append] at h2
        simp at h2; omega
      have HD2 : Hid ((done ++ [s]) ++ rest = p) := by show _ = _; rw [List.append_assoc]; exact HDR.out
      clear hx hd hf HDR h7 hso
      go_wp2_with fail
      refine HW.out.mono ?_
      rintro e w5 ⟨Wx, rfl, hbx, hw5⟩
      obtain ⟨hS5, h5x⟩ := HS.out.asw hbx (.pointer (some ⟨b1, 0, none⟩))
      rw [← hw5] at hS5 h5x
      have hkk : ∀ j v, w.cell? ⟨b1, j, none⟩ = some v → w5.cell? ⟨b1, j, none⟩ = some v := fun j v h => (hS5.below.cell (p := ⟨b1, j, none⟩) hl).trans h
      have g0 := hkk _ _ s0
      have g1 := hkk _ _ s1
      have g2 := hkk _ _ s2
      have g3 := hkk _ _ s3
      have g4 := hkk _ _ s4
      have HG5 := Hid.mk h5
      have ca := cell_of_row _ _ 0 _ _ _ h5x
      have hown := hS5.row
      have hlo := hS5.b3
      have HS5 := Hid.mk hS5
      have hL := HL.out
      have HH5x := Hid.mk h5x
      clear hbx hw5 hS5 hkk s0 s1 s2 s3 s4 h5 h5x HS HW
      go_wp2_with (at_builtin; refine wpList_append_own_at _ (by rfl) _ _ 35 (by rfl) lo 37 i0 (.agg #[.int .i64 0, .string ⟨#[]⟩, .string ⟨#[]⟩, .slice none 0 0, .slice none 0 0]) 5 88 Tryz.underlying35 hi0 hz0 hz1 hz2 rfl (by decide) _ _ _ (by rfl) (hown.alloc _) ⟨w5.heap.size, 0, none⟩ 1 1 [.int .i64 s.kind, .string s.num, .string s.text, .slice none 0 0, .slice none 0 0] (by rfl) (by rfl) (World.news_of_block (cs := #[.int .i64 s.kind, .string s.num, .string s.text, .slice none 0 0, .slice none 0 0]) (fr := (0, 0)) (World.alloc_heap_new w5 _)) (by simp [Value.oneCell']) (by unfold maxLen; omega) (by omega) (by simp; omega) ?_)
      intro v6 w6 hown6 hgrow6 hnil6 hat6
      obtain ⟨hS6, hold⟩ := HS5.out.app (s := s) hown6 hgrow6
      obtain ⟨io6, cap6, rfl⟩ := own_shapeS hown6
      have ca6 := cell_of_row _ _ 0 _ _ _ ((hold B2 hS6.b2).trans HH5x.out)
      have g5 := (hS6.below.cell (p := ⟨b1, 5, none⟩) hl).trans HG5.out
      have HS6 : Hid (TdS w lo B2 c r (done ++ [s]) (.slice io6 (done ++ [s]).length cap6) w6) := by
        rw [show (done ++ [s]).length = done.length + 1 from by simp]; exact hS6
      clear hown6 hgrow6 hnil6 hat6 hS6 hold ca g0 g1 g2 g3 g4 hown hlo
      go_wp2_with fail
      go_roundw
      case rel => exact ⟨done ++ [s], rest, t2, b2, io6, cap6, HD2, rfl, HC2, by rw [show (done ++ [s]).length = done.length + 1 from by simp], HS6⟩
      case measure => exact hlt
end Go.Proofs.YtapjfocjeligiaaGreatDoor
