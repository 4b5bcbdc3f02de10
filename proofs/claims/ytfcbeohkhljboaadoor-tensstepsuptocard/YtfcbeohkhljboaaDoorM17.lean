import Derived.Test.YtfcbeohkhljboaaDoorM16
import Derived.Test.YtfcbeohkhljboaaDoorM13
import Derived.Deep.RegionWith
namespace Go.Proofs.YtfcbeohkhljboaaDoor
open Go.RowKit
set_option linter.unusedVariables false
set_option linter.unusedSimpArgs false

set_option maxRecDepth 100000 in
set_option maxHeartbeats 1600000 in
theorem w_text (bl : Bool) (v : Value) (zs : List Nat) (w : World) (hg : Got w v zs) (hz : zs.length ≤ 17179869184) (htab : Tab w) :
    Calls Tryd.prog 49 #[.agg #[.bool bl, v]] w fun e w' => ∃ r : ByteArray, e = .returned (.string r) ∧ Pl.formed r.data.toList = true ∧ Pl.ival r.data.toList = sgn bl (Pl.val 1000000000 zs) ∧ Below w.heap.size w w' := by
  obtain ⟨i0, hi0, hz0, hz1, hz2⟩ := info_parts Tryd.infoB
  have HG := Hid.mk hg
  have HT := Hid.mk htab
  rcases hg.1.open' with ⟨rfl, ao, cap, rfl, hblk⟩ | ⟨hp, b, off, cap, rfl, hc, hlt, hcell⟩
  · have hv : Hid (Pl.ival [48] = sgn bl (Pl.val 1000000000 [])) := by show _ = _; cases bl <;> rfl
    clear hg htab
    go_enter Tryd.func49, Tryd.ntmps49
    go_wp2
    go_ret
    exact ⟨⟨#[48]⟩, rfl, rfl, hv.out, (Below.refl _ _).alloc (Nat.le_refl _) _⟩
  · obtain ⟨m, hm⟩ : ∃ m, zs.length = m + 1 := ⟨zs.length - 1, by omega⟩
    have HM := Hid.mk hm
    rw [hm] at hcell hz hc ⊢
    have HCell := Hid.mk hcell
    have hmk := fun (u : World) => run_make_bytes (9 * (m + 1) + 1) (((m : Int) + 1) * 9 + 1) (by omega) (by omega) u
    obtain ⟨u, hu⟩ : ∃ u, u = zs.getD m 0 := ⟨_, rfl⟩
    have c0 := hcell m (by omega)
    rw [← hu] at c0
    have HU := Hid.mk hu
    have hul : u < 1000000000 := by rw [hu]; exact Pl.dig_getD (by decide) hg.2.1 m
    have hne : ((m : Int) + 1 == 0) = false := by rw [beq_eq_false_iff_ne]; omega
    clear hg htab hcell hm hp hu
    cases bl
    · go_enter Tryd.func49, Tryd.ntmps49
      go_wp2_with fail
      have hown0 := own_bytes (box w false (.slice (some ⟨b, off, none⟩) (m + 1) cap)) (9 * (m + 1) + 1) (by omega)
      rw [box_size] at hown0
      have htb := (HT.out.keep (box_below w false (.slice (some ⟨b, off, none⟩) (m + 1) cap))).keep ((Below.refl _ _).alloc (Nat.le_refl _) (brow (9 * (m + 1) + 1)))
      refine (w_AppendUint (w.heap.size + 1) 0 u hul _ (Lib.byteCells []) _ hown0 (by simp [box_size]) (by omega) htb).mono ?_
      rintro e w3 ⟨v3, rfl, hown3, hb3⟩
      rw [← box_size w false (.slice (some ⟨b, off, none⟩) (m + 1) cap)] at hown3 hb3
      obtain ⟨g, cap3, N, hv3, hst⟩ := TxtSt.start (w1 := (box w false (.slice (some ⟨b, off, none⟩) (m + 1) cap))) (w2 := (box w false (.slice (some ⟨b, off, none⟩) (m + 1) cap)).alloc (brow (9 * (m + 1) + 1))) (bl := false) (zs := zs) (k := m) (l := []) (n := 0) rfl rfl HM.out HU.out.symm HG.out.2.2 HG.out.2.1 hown3 ((Below.refl (box w false (.slice (some ⟨b, off, none⟩) (m + 1) cap)).heap.size (box w false (.slice (some ⟨b, off, none⟩) (m + 1) cap))).alloc (Nat.le_refl _) _) hb3
      have HSt := Hid.mk hst
      subst hv3
      clear hown3 hb3 hst c0 hmk hown0 htb
      go_wp2_with fail
      go_loopw [3, 5] (fun o i wr => ∃ (k g n cp : Nat), k ≤ m ∧ o = .slice (some ⟨g, 0, none⟩) n cp ∧ i = .int .i64 ((k : Int) - 1) ∧ Hid (TxtSt (box w false (.slice (some ⟨b, off, none⟩) (m + 1) cap)) wr g n cp false zs k)) (fun _ i _ => (intOf i + 1).toNat)
      case atStart => exact ⟨m, g, N, cap3, Nat.le_refl _, rfl, int_eq (by omega), HSt⟩
      case round =>
        obtain ⟨k, g, n, cp, hk, rfl, rfl, HS⟩ := hrel
        cases k with
        | zero =>
          obtain ⟨r, hcv, hf, hi⟩ := HS.out.conv
          have HF : Hid (Pl.formed r.data.toList = true ∧ Pl.ival r.data.toList = sgn false (Pl.val 1000000000 zs) ∧ Below w.heap.size w wr) := by
            obtain ⟨l, h1, h2, h3, h4, h5⟩ := HS.out.out
            exact ⟨hf, hi, (box_below _ _ _).trans (h4.mono (by rw [box_size]; omega))⟩
          clear hf hi
          go_wp2_with fail
          go_ret
          exact ⟨r, rfl, HF.out⟩
        | succ k =>
          obtain ⟨l, h1, h2, h3, h4, h5⟩ := HS.out.out
          obtain ⟨x, hx⟩ : ∃ x, x = zs.getD k 0 := ⟨_, rfl⟩
          have hxl : x < 1000000000 := by rw [hx]; exact Pl.dig_getD (by decide) HG.out.2.1 k
          have cb : wr.cell? ⟨w.heap.size, 1, none⟩ = some (.slice (some ⟨b, off, none⟩) (m + 1) cap) := by
            rw [h4.cell (p := ⟨w.heap.size, 1, none⟩) (by rw [box_size]; exact Nat.lt_succ_self _)]
            exact box_cell _ _ _
          have cd : wr.cell? ⟨b, off + k, none⟩ = some (.int .u64 (x : Int)) := by
            rw [h4.cell (p := ⟨b, off + k, none⟩) (by rw [box_size]; show b < _; omega), hx, ← HCell.out k (by omega)]
            exact World.cell?_alloc_lt _ _ _ hlt
          have hlw : (box w false (.slice (some ⟨b, off, none⟩) (m + 1) cap)).heap.size ≤ wr.heap.size := h4.size
          have H2 := Hid.mk h2
          have H4 := Hid.mk h4
          have HX := Hid.mk hx
          have hml := HM.out
          have hki : (k : Int) < (m : Int) + 1 := by omega
          have hk0 : (0 : Int) ≤ (k : Int) := by omega
          clear h2 h4 hx
          rw [show ((k + 1 : Nat) : Int) - 1 = (k : Int) by omega]
          go_wp2_with fail
          refine (w_writeGroup (box w false (.slice (some ⟨b, off, none⟩) (m + 1) cap)).heap.size _ l n x wr h3 h1 hlw (by omega) hxl).mono ?_
          rintro e wn ⟨vn, rfl, hw⟩
          obtain ⟨g', cap', hvn, hstn⟩ := TxtSt.step h1 H2.out H4.out h5 (by omega) HX.out.symm hw
          have HStn := Hid.mk hstn
          subst hvn
          clear hw hstn
          go_wp2_with fail
          go_roundw
          case measure => simp [intOf]
          exact ⟨k, g', n + 9, cap', by omega, rfl, int_eq (by omega), HStn⟩
    · go_enter Tryd.func49, Tryd.ntmps49
      have hown0 := own_bytes (box w true (.slice (some ⟨b, off, none⟩) (m + 1) cap)) (9 * (m + 1) + 1) (by omega)
      rw [box_size] at hown0
      go_wp2_with (at_builtin; refine wpList_append_own _ rfl _ _ 75 rfl (w.heap.size + 1) 5 i0 (.int .u8 0) 1 1 Tryd.underlying75 hi0 hz0 hz1 hz2 rfl (by decide) _ _ _ rfl (hown0.alloc _) ⟨w.heap.size + 2, 0, none⟩ 1 1 [.int .u8 45] rfl rfl (World.news_of_block (cs := #[.int .u8 45]) (t := 5) (fr := (0, 0)) (by have h := heap_alloc_new ((box w true (.slice (some ⟨b, off, none⟩) (m + 1) cap)).alloc (brow (9 * (m + 1) + 1))) (.cells #[.int .u8 45] 5); rw [World.size_alloc, box_size] at h; exact h)) (by intro u hu; simp at hu; subst hu; rfl) (by unfold maxLen; omega) (by omega) (by simp [box]) ?_)
      intro v4 w4 hown4 hgrow4 _
      have hb4 : Below (w.heap.size + 1) (box w true (.slice (some ⟨b, off, none⟩) (m + 1) cap)) w4 := (((Below.refl (w.heap.size + 1) (box w true (.slice (some ⟨b, off, none⟩) (m + 1) cap))).alloc (by rw [box_size]; omega) (brow (9 * (m + 1) + 1))).alloc (by simp [box]) _).grown hgrow4 (by simp [box]) (own_base hown0)
      rw [← box_size w true (.slice (some ⟨b, off, none⟩) (m + 1) cap)] at hb4
      have HB4 := Hid.mk hb4
      have c4 : w4.cell? ⟨b, off + m, none⟩ = some (.int .u64 (u : Int)) := by
        rw [hb4.cell (p := ⟨b, off + m, none⟩) (by rw [box_size]; show b < _; omega), ← c0]
        exact World.cell?_alloc_lt _ _ _ hlt
      have cb4 : w4.cell? ⟨w.heap.size, 1, none⟩ = some (.slice (some ⟨b, off, none⟩) (m + 1) cap) := by
        rw [hb4.cell (p := ⟨w.heap.size, 1, none⟩) (by rw [box_size]; exact Nat.lt_succ_self _)]
        exact box_cell _ _ _
      have htb := (HT.out.keep (box_below w true (.slice (some ⟨b, off, none⟩) (m + 1) cap))).keep hb4
      have HTB := Hid.mk htb
      have hsz4 : w.heap.size + 1 ≤ w4.heap.size := by have := hb4.size; rw [box_size] at this; exact this
      obtain ⟨g4, cap4, hv4⟩ := own_some hown4 (by omega)
      have HO4 := Hid.mk hown4
      subst hv4
      clear hb4 htb hgrow4 hown4 hown0
      go_wp2_with fail
      refine (w_AppendUint (w.heap.size + 1) 1 u hul _ (Lib.byteCells [45]) _ HO4.out hsz4 (by omega) HTB.out).mono ?_
      rintro e w3 ⟨v3, rfl, hown3, hb3⟩
      rw [← box_size w true (.slice (some ⟨b, off, none⟩) (m + 1) cap)] at hown3 hb3
      obtain ⟨g, cap3, N, hv3, hst⟩ := TxtSt.start (w1 := (box w true (.slice (some ⟨b, off, none⟩) (m + 1) cap))) (w2 := w4) (bl := true) (zs := zs) (k := m) (l := [45]) (n := 1) rfl rfl HM.out HU.out.symm HG.out.2.2 HG.out.2.1 hown3 HB4.out hb3
      have HSt := Hid.mk hst
      subst hv3
      clear hown3 hb3 hst c0 hmk c4 cb4
      go_wp2_with fail
      go_loopw [3, 5] (fun o i wr => ∃ (k g n cp : Nat), k ≤ m ∧ o = .slice (some ⟨g, 0, none⟩) n cp ∧ i = .int .i64 ((k : Int) - 1) ∧ Hid (TxtSt (box w true (.slice (some ⟨b, off, none⟩) (m + 1) cap)) wr g n cp true zs k)) (fun _ i _ => (intOf i + 1).toNat)
      case atStart => exact ⟨m, g, N, cap3, Nat.le_refl _, rfl, int_eq (by omega), HSt⟩
      case round =>
        obtain ⟨k, g, n, cp, hk, rfl, rfl, HS⟩ := hrel
        cases k with
        | zero =>
          obtain ⟨r, hcv, hf, hi⟩ := HS.out.conv
          have HF : Hid (Pl.formed r.data.toList = true ∧ Pl.ival r.data.toList = sgn true (Pl.val 1000000000 zs) ∧ Below w.heap.size w wr) := by
            obtain ⟨l, h1, h2, h3, h4, h5⟩ := HS.out.out
            exact ⟨hf, hi, (box_below _ _ _).trans (h4.mono (by rw [box_size]; omega))⟩
          clear hf hi
          go_wp2_with fail
          go_ret
          exact ⟨r, rfl, HF.out⟩
        | succ k =>
          obtain ⟨l, h1, h2, h3, h4, h5⟩ := HS.out.out
          obtain ⟨x, hx⟩ : ∃ x, x = zs.getD k 0 := ⟨_, rfl⟩
          have hxl : x < 1000000000 := by rw [hx]; exact Pl.dig_getD (by decide) HG.out.2.1 k
          have cb : wr.cell? ⟨w.heap.size, 1, none⟩ = some (.slice (some ⟨b, off, none⟩) (m + 1) cap) := by
            rw [h4.cell (p := ⟨w.heap.size, 1, none⟩) (by rw [box_size]; exact Nat.lt_succ_self _)]
            exact box_cell _ _ _
          have cd : wr.cell? ⟨b, off + k, none⟩ = some (.int .u64 (x : Int)) := by
            rw [h4.cell (p := ⟨b, off + k, none⟩) (by rw [box_size]; show b < _; omega), hx, ← HCell.out k (by omega)]
            exact World.cell?_alloc_lt _ _ _ hlt
          have hlw : (box w true (.slice (some ⟨b, off, none⟩) (m + 1) cap)).heap.size ≤ wr.heap.size := h4.size
          have H2 := Hid.mk h2
          have H4 := Hid.mk h4
          have HX := Hid.mk hx
          have hml := HM.out
          have hki : (k : Int) < (m : Int) + 1 := by omega
          have hk0 : (0 : Int) ≤ (k : Int) := by omega
          clear h2 h4 hx
          rw [show ((k + 1 : Nat) : Int) - 1 = (k : Int) by omega]
          go_wp2_with fail
          refine (w_writeGroup (box w true (.slice (some ⟨b, off, none⟩) (m + 1) cap)).heap.size _ l n x wr h3 h1 hlw (by omega) hxl).mono ?_
          rintro e wn ⟨vn, rfl, hw⟩
          obtain ⟨g', cap', hvn, hstn⟩ := TxtSt.step h1 H2.out H4.out h5 (by omega) HX.out.symm hw
          have HStn := Hid.mk hstn
          subst hvn
          clear hw hstn
          go_wp2_with fail
          go_roundw
          case measure => simp [intOf]
          exact ⟨k, g', n + 9, cap', by omega, rfl, int_eq (by omega), HStn⟩
end Go.Proofs.YtfcbeohkhljboaaDoor
namespace Go.Proofs.YtfcbeohkhljboaaDoor
open Go.RowKit
set_option linter.unusedVariables false
set_option linter.unusedSimpArgs false

/-- the digits of a number lie there -/
def NumV (w' : World) (v : Value) (x : Nat) : Prop := ∃ zs, Got w' v zs ∧ Pl.val 1000000000 zs = x

theorem Got.keep {w w' : World} {v : Value} {zs : List Nat} (h : Got w v zs) (hb : Below w.heap.size w w') : Got w' v zs := ⟨h.1.keep hb, h.2⟩
theorem NumV.keep {w w' : World} {v : Value} {x : Nat} (h : NumV w v x) (hb : Below w.heap.size w w') : NumV w' v x := by
  obtain ⟨zs, h1, h2⟩ := h; exact ⟨zs, h1.keep hb, h2⟩

theorem NumV.fits {w : World} {v : Value} {x K : Nat} (h : NumV w v x) (hx : x < 1000000000 ^ K) : ∃ zs, Got w v zs ∧ Pl.val 1000000000 zs = x ∧ zs.length ≤ K := by
  obtain ⟨zs, h1, h2⟩ := h
  exact ⟨zs, h1, h2, Pl.len_of_val (B := 1000000000) (by decide) h1.2.2 (by rw [h2]; exact hx)⟩

theorem fresh_num {w w' : World} {v : Value} {zs : List Nat} (h : Fresh w w' v zs) : NumV w' v (Pl.val 1000000000 zs) ∧ Below w.heap.size w w' :=
  ⟨⟨zs, ⟨h.1, h.2.1, h.2.2.1⟩, rfl⟩, h.2.2.2.1⟩

/-- what a number's method answers -/
def NumR (w w' : World) (e : Ending) (z : Int) : Prop := ∃ bl v x, e = .returned (.agg #[.bool bl, v]) ∧ NumV w' v x ∧ sgn bl x = z ∧ Below w.heap.size w w'

theorem below2 (w : World) (o1 o2 : Obj) : Below w.heap.size w ((w.alloc o1).alloc o2) := ((Below.refl w.heap.size w).alloc (Nat.le_refl _) o1).alloc (by simp) o2
theorem below1 (w : World) (o1 : Obj) : Below w.heap.size w (w.alloc o1) := (Below.refl w.heap.size w).alloc (Nat.le_refl _) o1
theorem below_more {w w1 w2 : World} (h : Below w.heap.size w w1) (h2 : Below w1.heap.size w1 w2) : Below w.heap.size w w2 := h.trans (h2.mono h.size)

/-- the world with two numbers and a third one's room laid down -/
def box3 (w : World) (b1 : Bool) (v1 : Value) (b2 : Bool) (v2 : Value) : World := ((w.alloc (.cells #[.bool b1, v1] 58)).alloc (.cells #[.bool b2, v2] 58)).alloc (.cells #[.bool false, .slice none 0 0] 58)
theorem box3_below (w : World) (b1 : Bool) (v1 : Value) (b2 : Bool) (v2 : Value) : Below w.heap.size w (box3 w b1 v1 b2 v2) := (below2 w _ _).alloc (by simp; omega) _
theorem box3_size (w : World) (b1 : Bool) (v1 : Value) (b2 : Bool) (v2 : Value) : (box3 w b1 v1 b2 v2).heap.size = w.heap.size + 3 := by simp [box3]

/-- what lies in them -/
structure In3 (w u : World) (b1 : Bool) (v1 : Value) (b2 : Bool) (v2 : Value) : Prop where
  c00 : u.cell? ⟨w.heap.size, 0, none⟩ = some (.bool b1)
  c01 : u.cell? ⟨w.heap.size, 1, none⟩ = some v1
  c10 : u.cell? ⟨w.heap.size + 1, 0, none⟩ = some (.bool b2)
  c11 : u.cell? ⟨w.heap.size + 1, 1, none⟩ = some v2
  c20 : u.cell? ⟨w.heap.size + 1 + 1, 0, none⟩ = some (.bool false)
  c21 : u.cell? ⟨w.heap.size + 1 + 1, 1, none⟩ = some (.slice none 0 0)
  f00 : u.frozen? ⟨w.heap.size, 0, none⟩ = false
  f01 : u.frozen? ⟨w.heap.size, 1, none⟩ = false
  f10 : u.frozen? ⟨w.heap.size + 1, 0, none⟩ = false
  f11 : u.frozen? ⟨w.heap.size + 1, 1, none⟩ = false
  f20 : u.frozen? ⟨w.heap.size + 1 + 1, 0, none⟩ = false
  f21 : u.frozen? ⟨w.heap.size + 1 + 1, 1, none⟩ = false
  size : w.heap.size + 3 ≤ u.heap.size
  below : Below w.heap.size w u

theorem in3_box (w : World) (b1 : Bool) (v1 : Value) (b2 : Bool) (v2 : Value) : In3 w (box3 w b1 v1 b2 v2) b1 v1 b2 v2 where
  c00 := by simp [box3, go_sem]
  c01 := by simp [box3, go_sem]
  c10 := by simp [box3, go_sem]
  c11 := by simp [box3, go_sem]
  c20 := by simp [box3, go_sem]
  c21 := by simp [box3, go_sem]
  f00 := by simp [box3, go_sem]
  f01 := by simp [box3, go_sem]
  f10 := by simp [box3, go_sem]
  f11 := by simp [box3, go_sem]
  f20 := by simp [box3, go_sem]
  f21 := by simp [box3, go_sem]
  size := by rw [box3_size]; exact Nat.le_refl _
  below := box3_below _ _ _ _ _

theorem In3.keep {w u u' : World} {b1 : Bool} {v1 : Value} {b2 : Bool} {v2 : Value} (h : In3 w u b1 v1 b2 v2) (hb : Below u.heap.size u u') : In3 w u' b1 v1 b2 v2 := by
  have hs := h.size
  exact ⟨below_cells hb (by omega) h.c00, below_cells hb (by omega) h.c01, below_cells hb (by omega) h.c10, below_cells hb (by omega) h.c11, below_cells hb (by omega) h.c20, below_cells hb (by omega) h.c21,
    below_frees hb (by omega) h.f00, below_frees hb (by omega) h.f01, below_frees hb (by omega) h.f10, below_frees hb (by omega) h.f11, below_frees hb (by omega) h.f20, below_frees hb (by omega) h.f21, Nat.le_trans hs hb.size, below_more h.below hb⟩

theorem In3.drew {w u : World} {b1 : Bool} {v1 : Value} {b2 : Bool} {v2 : Value} (h : In3 w u b1 v1 b2 v2) : In3 w u.drew b1 v1 b2 v2 := h.keep (Below.refl _ _).drew

theorem Nums.put {w : World} {v : Value} {xs : List Nat} (h : Nums .u64 w v xs) (a : Addr) (x y : Value) (hc : w.cell? a = some y) (hy : ∀ i, y ≠ .int .u64 i) : Nums .u64 (w.setCell a x) v xs := by
  obtain ⟨ao, cap, hv, hc', hk, hr⟩ := h
  have hsz : (w.setCell a x).heap.size = w.heap.size := by simp
  refine ⟨ao, cap, hv, hc', fun b e => by rw [hsz]; exact hk b e, fun hn => ?_⟩
  obtain ⟨b, off, ha, hlt, hcell⟩ := hr hn
  refine ⟨b, off, ha, by rw [hsz]; exact hlt, fun i hi => ?_⟩
  have h1 := hcell i hi
  have hne : a ≠ ⟨b, off + i, none⟩ := by
    intro e
    rw [← e, hc] at h1
    exact hy _ (Option.some.inj h1)
  rw [World.cell?_setCell_other _ _ _ _ hne]; exact h1

theorem NumV.put {w : World} {v : Value} {z : Nat} (h : NumV w v z) (a : Addr) (x y : Value) (hc : w.cell? a = some y) (hy : ∀ i, y ≠ .int .u64 i) : NumV (w.setCell a x) v z := by
  obtain ⟨zs, h1, h2⟩ := h; exact ⟨zs, ⟨h1.1.put a x y hc hy, h1.2⟩, h2⟩

/-- the answer's room is filled -/
theorem fill {w u : World} {g : Nat} {bl bq : Bool} {v vq : Value} {x : Nat} (hb : Below w.heap.size w u) (hg : w.heap.size ≤ g) (c0 : u.cell? ⟨g, 0, none⟩ = some (.bool bq)) (c1 : u.cell? ⟨g, 1, none⟩ = some vq) (hq : ∀ i, vq ≠ .int .u64 i) (hn : NumV u v x) :
    ((u.setCell ⟨g, 0, none⟩ (.bool bl)).setCell ⟨g, 1, none⟩ v).cell? ⟨g, 0, none⟩ = some (.bool bl) ∧ ((u.setCell ⟨g, 0, none⟩ (.bool bl)).setCell ⟨g, 1, none⟩ v).cell? ⟨g, 1, none⟩ = some v ∧ NumV ((u.setCell ⟨g, 0, none⟩ (.bool bl)).setCell ⟨g, 1, none⟩ v) v x ∧ Below w.heap.size w ((u.setCell ⟨g, 0, none⟩ (.bool bl)).setCell ⟨g, 1, none⟩ v) := by
  have d1 : (u.setCell ⟨g, 0, none⟩ (.bool bl)).cell? ⟨g, 1, none⟩ = some vq := by
    rw [World.cell?_setCell_other _ _ _ _ (by simp)]; exact c1
  refine ⟨?_, World.cell?_setCell_same _ _ _ d1, ?_, (hb.setCell hg _).setCell hg _⟩
  · rw [World.cell?_setCell_other _ _ _ _ (by simp)]; exact World.cell?_setCell_same _ _ _ c0
  · exact (hn.put _ _ _ c0 (by simp)).put _ _ _ d1 hq

/-- the two are exchanged -/
theorem In3.swap {w u : World} {b1 : Bool} {v1 : Value} {b2 : Bool} {v2 : Value} (h : In3 w u b1 v1 b2 v2) :
    In3 w ((((u.setCell ⟨w.heap.size, 0, none⟩ (.bool b2)).setCell ⟨w.heap.size, 1, none⟩ v2).setCell ⟨w.heap.size + 1, 0, none⟩ (.bool b1)).setCell ⟨w.heap.size + 1, 1, none⟩ v1) b2 v2 b1 v1 := by
  obtain ⟨c00, c01, c10, c11, c20, c21, f00, f01, f10, f11, f20, f21, size, below⟩ := h
  have e1 : (u.setCell ⟨w.heap.size, 0, none⟩ (.bool b2)).cell? ⟨w.heap.size, 1, none⟩ = some v1 := by rw [World.cell?_setCell_other _ _ _ _ (by simp)]; exact c01
  have e2 : ((u.setCell ⟨w.heap.size, 0, none⟩ (.bool b2)).setCell ⟨w.heap.size, 1, none⟩ v2).cell? ⟨w.heap.size + 1, 0, none⟩ = some (.bool b2) := by
    rw [World.cell?_setCell_other _ _ _ _ (by simp), World.cell?_setCell_other _ _ _ _ (by simp)]; exact c10
  have e3 : (((u.setCell ⟨w.heap.size, 0, none⟩ (.bool b2)).setCell ⟨w.heap.size, 1, none⟩ v2).setCell ⟨w.heap.size + 1, 0, none⟩ (.bool b1)).cell? ⟨w.heap.size + 1, 1, none⟩ = some v2 := by
    rw [World.cell?_setCell_other _ _ _ _ (by simp), World.cell?_setCell_other _ _ _ _ (by simp), World.cell?_setCell_other _ _ _ _ (by simp)]; exact c11
  refine ⟨?_, ?_, ?_, World.cell?_setCell_same _ _ _ e3, ?_, ?_, ?_, ?_, ?_, ?_, ?_, ?_, ?_, ?_⟩
  · rw [World.cell?_setCell_other _ _ _ _ (by simp), World.cell?_setCell_other _ _ _ _ (by simp), World.cell?_setCell_other _ _ _ _ (by simp)]; exact World.cell?_setCell_same _ _ _ c00
  · rw [World.cell?_setCell_other _ _ _ _ (by simp), World.cell?_setCell_other _ _ _ _ (by simp)]; exact World.cell?_setCell_same _ _ _ e1
  · rw [World.cell?_setCell_other _ _ _ _ (by simp)]; exact World.cell?_setCell_same _ _ _ e2
  · rw [World.cell?_setCell_other _ _ _ _ (by simp), World.cell?_setCell_other _ _ _ _ (by simp), World.cell?_setCell_other _ _ _ _ (by simp), World.cell?_setCell_other _ _ _ _ (by simp)]; exact c20
  · rw [World.cell?_setCell_other _ _ _ _ (by simp), World.cell?_setCell_other _ _ _ _ (by simp), World.cell?_setCell_other _ _ _ _ (by simp), World.cell?_setCell_other _ _ _ _ (by simp)]; exact c21
  · simpa using f00
  · simpa using f01
  · simpa using f10
  · simpa using f11
  · simpa using f20
  · simpa using f21
  · simpa using size
  · exact (((below.setCell (Nat.le_refl _) _).setCell (Nat.le_refl _) _).setCell (Nat.le_succ _) _).setCell (Nat.le_succ _) _

/-- less from more -/
theorem diff_any {w : World} {ao bo : Option Addr} {ca cb K : Nat} {xs ys : List Nat} (g1 : Got w (.slice ao xs.length ca) xs) (g2 : Got w (.slice bo ys.length cb) ys) (l1 : xs.length ≤ K) (hK : K ≤ 274877906944) (hle : Pl.val 1000000000 ys ≤ Pl.val 1000000000 xs) (u : World) (hu : Below w.heap.size w u) :
    Calls Tryd.prog 80 #[.slice ao xs.length ca, .slice bo ys.length cb] u fun e w' => ∃ ro rn rc, e = .returned (.slice ro rn rc) ∧ Hid (NumV w' (.slice ro rn rc) (Pl.val 1000000000 xs - Pl.val 1000000000 ys)) ∧ Below u.heap.size u w' := by
  refine (w_difference _ _ xs ys u (g1.1.keep hu) (g2.1.keep hu) (by omega) g1.2.1 g2.2.1 g2.2.2 hle).mono ?_
  rintro e w' ⟨v, zs, rfl, hf, hv⟩
  obtain ⟨ro, rc, rfl, _⟩ := hf.1
  obtain ⟨n1, n2⟩ := fresh_num hf
  refine ⟨ro, _, rc, rfl, ?_, n2⟩
  rw [show Pl.val 1000000000 zs = Pl.val 1000000000 xs - Pl.val 1000000000 ys by omega] at n1
  exact n1

end Go.Proofs.YtfcbeohkhljboaaDoor
