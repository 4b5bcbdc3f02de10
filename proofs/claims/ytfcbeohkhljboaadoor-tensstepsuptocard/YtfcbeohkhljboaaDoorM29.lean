import Derived.Test.YtfcbeohkhljboaaDoorM28
import Derived.Lib.AppendIntMem
namespace Go.Proofs.YtfcbeohkhljboaaDoor
open Go.RowKit
set_option linter.unusedVariables false
set_option linter.unusedSimpArgs false

/-- the table of powers that strconv reads -/
def Tab (w : World) : Prop := Lib.TabIs Tryd.prog w "internal/strconv.uint64pow10" .u64 Lib.pow10Tab
theorem Tab.keep {w w' : World} (h : Tab w) (hb : Below w.heap.size w w') : Tab w' := Lib.tabBelow_of_tabIs h w' hb

set_option maxHeartbeats 800000 in
theorem w_AppendUint (base n u : Nat) (hu : u < 1000000000) (v : Value) (xs : List Value) (w : World) (hown : w.ownsRow base 5 1 v n xs) (hbw : base ≤ w.heap.size) (hn : n ≤ 1099511627776) (htab : Tab w) :
    Calls Tryd.prog 77 #[v, .int .u64 (u : Int), .int .i64 10] w fun e w' => ∃ v', e = .returned v' ∧ w'.ownsRow base 5 1 v' (n + (Lib.decDigits u).length) (xs ++ Lib.byteCells (Lib.decDigits u)) ∧ Below base w w' := by
  have HO := Hid.mk hown
  have HT := Hid.mk htab
  obtain ⟨ao, cap0, hv⟩ : ∃ ao cap, v = .slice ao n cap := by
    rcases hown.2 with ⟨e, e2⟩ | ⟨g, cap, cur, e, _⟩
    · exact ⟨none, 0, by rw [e, e2]⟩
    · exact ⟨_, _, e⟩
  subst hv
  clear hown htab
  go_enter Tryd.func77, Tryd.ntmps77
  go_wp2_with fail
  refine (Tryd.internal_strconv_AppendUint_10 base n u (by omega) _ xs w HO.out hbw (by omega) HT.out).mono ?_
  rintro e w1 ⟨v1, rfl, hown1, hb1, _⟩
  have HO1 := Hid.mk hown1
  have HB1 := Hid.mk hb1
  obtain ⟨ao1, cap1, hv⟩ : ∃ ao cap, v1 = .slice ao (n + (Lib.decDigits u).length) cap := by
    rcases hown1.2 with ⟨e, e2⟩ | ⟨g, cap, cur, e, _⟩
    · exact ⟨none, 0, by rw [e, e2]⟩
    · exact ⟨_, _, e⟩
  subst hv
  clear hown1 hb1
  go_wp2_with fail
  go_ret
  exact ⟨_, rfl, HO1.out, HB1.out⟩

/-- a number and its sign -/
def sgn (bl : Bool) (n : Nat) : Int := if bl then -(n : Int) else (n : Int)

/-- the letters so far: an optional minus, then digits without a nought ahead -/
def Lets (bl : Bool) (l : List UInt8) (n : Nat) : Prop := ∃ m, l = (if bl then [45] else []) ++ m ∧ Pl.plainB m = true ∧ Pl.dvl m = n

theorem lets_formed {bl : Bool} {l : List UInt8} {n : Nat} (h : Lets bl l n) : Pl.formed l = true ∧ Pl.ival l = sgn bl n := by
  obtain ⟨m, rfl, hp, hv⟩ := h
  cases bl
  · simp only [Bool.false_eq_true, if_false, List.nil_append]
    have hn : Pl.neg m = false := by
      cases m with
      | nil => rfl
      | cons c t =>
        simp only [Pl.plainB, Bool.and_eq_true] at hp
        have := (Pl.isDig_iff c).1 (List.all_eq_true.1 hp.2 c (by simp))
        simp [Pl.neg]; omega
    have hb : Pl.body m = m := by unfold Pl.body; rw [hn]; rfl
    refine ⟨by simp [Pl.formed, hb, hp], ?_⟩
    unfold Pl.ival
    rw [hn, hb, hv]; rfl
  · simp only [if_true]
    have hn : Pl.neg ([45] ++ m) = true := rfl
    have hb : Pl.body ([45] ++ m) = m := rfl
    refine ⟨by unfold Pl.formed; rw [hb, hp, Bool.or_true], ?_⟩
    unfold Pl.ival
    rw [hn, hb, hv]; rfl

theorem lets_more {bl : Bool} {l m : List UInt8} {n x : Nat} (h : Lets bl l n) (hm : m.length = 9) (hd : m.all Pl.isDig = true) (hv : Pl.dvl m = x) : Lets bl (l ++ m) (n * 1000000000 + x) := by
  obtain ⟨k, rfl, hp, hk⟩ := h
  refine ⟨k ++ m, by rw [List.append_assoc], ?_, ?_⟩
  · cases k with
    | nil => simp [Pl.plainB] at hp
    | cons c t =>
      simp only [Pl.plainB, Bool.and_eq_true, List.cons_append] at hp ⊢
      refine ⟨hp.1, ?_⟩
      rw [← List.cons_append, List.all_append, hp.2, hd]; rfl
  · rw [dvl_append, hk, hv, hm]

/-- a new row of bytes, all of it room -/
def brow (m : Nat) : Obj := .cells (madeCells #[.int .u8 0] m) 5 (0, 0)

theorem run_make_bytes (m : Nat) (z : Int) (hz : z = (m : Int)) (hn : m ≤ 1099511627776) (u : World) : (Instr.makeSlice 75 (.int .i64 0) (.int .i64 z)).run Tryd.prog u = .ok (.slice (some ⟨u.heap.size, 0, none⟩) 0 m) (u.alloc (brow m)) := by
  subst hz
  obtain ⟨i0, hi, hz0, hz1, hz2⟩ := info_parts Tryd.infoB
  have h := run_make (P := Tryd.prog) u 75 5 i0 (.int .u8 0) Tryd.underlying75 hi hz0 .i64 .i64 0 (m : Int) (by omega) (by omega) (by rw [hz2]; omega) (by omega)
  have e : ((m : Int)).toNat = m := by omega
  rw [e] at h
  simpa [hz1, Value.cells, brow] using h

theorem own_bytes (w : World) (m : Nat) (hm : m ≤ 1099511627776) : (w.alloc (brow m)).ownsRow w.heap.size 5 1 (.slice (some ⟨w.heap.size, 0, none⟩) 0 m) 0 (Lib.byteCells []) :=
  ⟨rfl, Or.inr ⟨w.heap.size, m, madeCells #[.int .u8 0] m, rfl, Nat.le_refl _, heap_alloc_new w _, Nat.zero_le _, by unfold maxLen; omega, by rw [size_madeCells, Nat.mul_one], rfl⟩⟩

theorem dec_len : ∀ (k u : Nat), u < 10 ^ (k + 1) → (Lib.decDigits u).length ≤ k + 1 := by
  intro k
  induction k with
  | zero => intro u h; rw [Lib.decDigits_one (by simpa using h)]; simp
  | succ k ih =>
    intro u h
    by_cases h9 : u < 10
    · rw [Lib.decDigits_one h9]; simp
    · rw [Lib.decDigits, dif_neg h9]
      have := ih (u / 10) (by rw [Nat.pow_succ] at h; omega)
      simp; omega

/-- while the groups are written -/
structure TxtSt (w1 wr : World) (g n cap : Nat) (bl : Bool) (zs : List Nat) (k : Nat) : Prop where
  out : ∃ l : List UInt8, l.length = n ∧ Lets bl l (Pl.val 1000000000 (zs.drop k)) ∧ wr.ownsRow w1.heap.size 5 1 (.slice (some ⟨g, 0, none⟩) n cap) n (Lib.byteCells l) ∧ Below w1.heap.size w1 wr ∧ n ≤ 10 + 9 * (zs.length - k)

theorem own_some {w : World} {base n : Nat} {v : Value} {xs : List Value} (h : w.ownsRow base 5 1 v n xs) (hn : 0 < n) : ∃ g cap, v = .slice (some ⟨g, 0, none⟩) n cap := by
  rcases h.2 with ⟨e, e2⟩ | ⟨g, cap, cur, e, _⟩
  · omega
  · exact ⟨g, cap, e⟩

theorem TxtSt.start {w1 w2 wr : World} {v : Value} {l : List UInt8} {n u k : Nat} {bl : Bool} {zs : List Nat} (hl : l = if bl then [45] else []) (hn : l.length = n) (hk : zs.length = k + 1) (hu : zs.getD k 0 = u) (ht : Pl.Top zs) (hd : Pl.dig 1000000000 zs)
    (hown : wr.ownsRow w1.heap.size 5 1 v (n + (Lib.decDigits u).length) (Lib.byteCells l ++ Lib.byteCells (Lib.decDigits u))) (hb : Below w1.heap.size w1 w2) (hb2 : Below w1.heap.size w2 wr) : ∃ g cap N, v = .slice (some ⟨g, 0, none⟩) N cap ∧ TxtSt w1 wr g N cap bl zs k := by
  have hnz : zs.getD (zs.length - 1) 0 ≠ 0 := Pl.top_last ht (by omega)
  rw [hk, Nat.add_sub_cancel, hu] at hnz
  obtain ⟨r, t, h1, h2, h3⟩ := Pl.drop_parts (rs := zs) (i := k) (by omega)
  have hlt : u < 1000000000 := by
    rw [← hu, h2]; exact hd r (by have : r ∈ zs.drop k := by rw [h1]; simp
                                  exact List.mem_of_mem_drop this)
  have ht0 : t = [] := by rw [← h3]; exact List.drop_eq_nil_of_le (by omega)
  obtain ⟨p1, p2, p3⟩ := dec_props u
  have hpos : 0 < (Lib.decDigits u).length := by
    have := p3 (by omega)
    cases e : Lib.decDigits u with
    | nil => rw [e] at this; cases this
    | cons => simp
  obtain ⟨g, cap, hv⟩ := own_some hown (by omega)
  have h9 := dec_len 8 u (by simpa using hlt)
  have hl1 : l.length ≤ 1 := by rw [hl]; cases bl <;> simp
  refine ⟨g, cap, _, hv, ⟨l ++ Lib.decDigits u, by simp [hn], ⟨Lib.decDigits u, by rw [hl], p3 (by omega), ?_⟩, ?_, hb.trans hb2, by omega⟩⟩
  · rw [h1, ht0, val_one, p2, ← hu, h2]
  · rw [hv] at hown; rw [Lib.byteCells_append]; exact hown

theorem TxtSt.step {w1 wr wn : World} {v : Value} {n u k : Nat} {bl : Bool} {zs : List Nat} {l : List UInt8} (hl : l.length = n) (hL : Lets bl l (Pl.val 1000000000 (zs.drop (k + 1)))) (hb : Below w1.heap.size w1 wr) (hn : n ≤ 10 + 9 * (zs.length - (k + 1))) (hk : k + 1 < zs.length) (hu : zs.getD k 0 = u)
    (hw : Wrote w1.heap.size wr wn v n l u) : ∃ g cap, v = .slice (some ⟨g, 0, none⟩) (n + 9) cap ∧ TxtSt w1 wn g (n + 9) cap bl zs k := by
  obtain ⟨m, m1, m2, m3, m4, m5⟩ := hw
  obtain ⟨g, cap, hv⟩ := own_some m4 (by omega)
  obtain ⟨r, t, h1, h2, h3⟩ := Pl.drop_parts (rs := zs) (i := k) (by omega)
  refine ⟨g, cap, hv, ⟨l ++ m, by simp; omega, ?_, by rw [hv] at m4; exact m4, hb.trans m5, by omega⟩⟩
  rw [h1, Pl.val_cons, ← h3, Nat.add_comm, Nat.mul_comm]
  exact lets_more hL m1 m2 (by rw [m3, ← hu, h2])

theorem TxtSt.conv {w1 wr : World} {g n cap : Nat} {bl : Bool} {zs : List Nat} (h : TxtSt w1 wr g n cap bl zs 0) : ∃ r : ByteArray, (convert 75 9 (.slice (some ⟨g, 0, none⟩) n cap)).run Tryd.prog wr = .ok (.string r) wr ∧ Pl.formed r.data.toList = true ∧ Pl.ival r.data.toList = sgn bl (Pl.val 1000000000 zs) := by
  obtain ⟨l, h1, h2, h3, h4, h5⟩ := h.out
  subst h1
  refine ⟨⟨l.toArray⟩, run_convert_bytes_back (P := Tryd.prog) wr 75 9 5 ⟨g, 0, none⟩ cap l Tryd.underlying75 Tryd.underlying5 Tryd.underlying9 (fun j hj => ?_), ?_⟩
  · have := h3.cellAt j (by omega)
    have e : (⟨g, 0, none⟩ : Addr).add j = ⟨g, j, none⟩ := by
      unfold Addr.add; by_cases h0 : j = 0 <;> simp [h0]
    rw [e, this]
    simp [Lib.byteCells, hj]
  · have := lets_formed h2
    simpa using this

/-- the world with the number laid down -/
def box (w : World) (bl : Bool) (v : Value) : World := w.alloc (.cells #[.bool bl, v] 58)
theorem box_size (w : World) (bl : Bool) (v : Value) : (box w bl v).heap.size = w.heap.size + 1 := by simp [box]
theorem box_below (w : World) (bl : Bool) (v : Value) : Below w.heap.size w (box w bl v) := (Below.refl w.heap.size w).alloc (Nat.le_refl _) _
theorem box_cell (w : World) (bl : Bool) (v : Value) : (box w bl v).cell? ⟨w.heap.size, 1, none⟩ = some v := by simp [box]
end Go.Proofs.YtfcbeohkhljboaaDoor
namespace Go.Proofs.YtfcbeohkhljboaaDoor
open Go.RowKit
set_option linter.unusedVariables false
set_option linter.unusedSimpArgs false

set_option maxRecDepth 100000 in
set_option maxHeartbeats 1600000 in
theorem w_text (bl : Bool) (v : Value) (zs : List Nat) (w : World) (hg : Got w v zs) (hz : zs.length ≤ 17179869184) (htab : Tab w) :
    Calls Tryd.prog 49 #[.agg #[.bool bl, v]] w fun e w' => ∃ r : ByteArray, e = .returned (.string r) ∧ Pl.formed r.data.toList = true ∧ Pl.ival r.data.toList = sgn bl (Pl.val 1000000000 zs) ∧ Below w.heap.size w w' := by
  obtain ⟨i0, hi0, hz0, hz1, hz2⟩ := info_parts Tryd.infoB
  have HG := Hid.mk hg
  have HT := Hid.mk htab
  rcases hg.1.open' with ⟨rfl, ao, cap, rfl, hblk⟩ | ⟨hp, b, off, cap, rfl, hc, hlt, hcell⟩
  · have hv : Hid (Pl.ival [48] = sgn bl (Pl.val 1000000000 [])) := by show _ = _; cases bl <;> rfl
    clear hg htab
    go_enter Tryd.func49, Tryd.ntmps49
    go_wp2
    go_ret
    exact ⟨⟨#[48]⟩, rfl, rfl, hv.out, (Below.refl _ _).alloc (Nat.le_refl _) _⟩
  · obtain ⟨m, hm⟩ : ∃ m, zs.length = m + 1 := ⟨zs.length - 1, by omega⟩
    have HM := Hid.mk hm
    rw [hm] at hcell hz hc ⊢
    have HCell := Hid.mk hcell
    have hmk := fun (u : World) => run_make_bytes (9 * (m + 1) + 1) (((m : Int) + 1) * 9 + 1) (by omega) (by omega) u
    obtain ⟨u, hu⟩ : ∃ u, u = zs.getD m 0 := ⟨_, rfl⟩
    have c0 := hcell m (by omega)
    rw [← hu] at c0
    have HU := Hid.mk hu
    have hul : u < 1000000000 := by rw [hu]; exact Pl.dig_getD (by decide) hg.2.1 m
    have hne : ((m : Int) + 1 == 0) = false := by rw [beq_eq_false_iff_ne]; omega
    clear hg htab hcell hm hp hu
    cases bl
    · go_enter Tryd.func49, Tryd.ntmps49
      go_wp2_with fail
      have hown0 := own_bytes (box w false (.slice (some ⟨b, off, none⟩) (m + 1) cap)) (9 * (m + 1) + 1) (by omega)
      rw [box_size] at hown0
      have htb := (HT.out.keep (box_below w false (.slice (some ⟨b, off, none⟩) (m + 1) cap))).keep ((Below.refl _ _).alloc (Nat.le_refl _) (brow (9 * (m + 1) + 1)))
      refine (w_AppendUint (w.heap.size + 1) 0 u hul _ (Lib.byteCells []) _ hown0 (by simp [box_size]) (by omega) htb).mono ?_
      rintro e w3 ⟨v3, rfl, hown3, hb3⟩
      rw [← box_size w false (.slice (some ⟨b, off, none⟩) (m + 1) cap)] at hown3 hb3
      obtain ⟨g, cap3, N, hv3, hst⟩ := TxtSt.start (w1 := (box w false (.slice (some ⟨b, off, none⟩) (m + 1) cap))) (w2 := (box w false (.slice (some ⟨b, off, none⟩) (m + 1) cap)).alloc (brow (9 * (m + 1) + 1))) (bl := false) (zs := zs) (k := m) (l := []) (n := 0) rfl rfl HM.out HU.out.symm HG.out.2.2 HG.out.2.1 hown3 ((Below.refl (box w false (.slice (some ⟨b, off, none⟩) (m + 1) cap)).heap.size (box w false (.slice (some ⟨b, off, none⟩) (m + 1) cap))).alloc (Nat.le_refl _) _) hb3
      have HSt := Hid.mk hst
      subst hv3
      clear hown3 hb3 hst c0 hmk hown0 htb
      go_wp2_with fail
      go_loopw [3, 5] (fun o i wr => ∃ (k g n cp : Nat), k ≤ m ∧ o = .slice (some ⟨g, 0, none⟩) n cp ∧ i = .int .i64 ((k : Int) - 1) ∧ Hid (TxtSt (box w false (.slice (some ⟨b, off, none⟩) (m + 1) cap)) wr g n cp false zs k)) (fun _ i _ => (intOf i + 1).toNat)
      case atStart => exact ⟨m, g, N, cap3, Nat.le_refl _, rfl, int_eq (by omega), HSt⟩
      case round =>
        obtain ⟨k, g, n, cp, hk, rfl, rfl, HS⟩ := hrel
        cases k with
        | zero =>
          obtain ⟨r, hcv, hf, hi⟩ := HS.out.conv
          have HF : Hid (Pl.formed r.data.toList = true ∧ Pl.ival r.data.toList = sgn false (Pl.val 1000000000 zs) ∧ Below w.heap.size w wr) := by
            obtain ⟨l, h1, h2, h3, h4, h5⟩ := HS.out.out
            exact ⟨hf, hi, (box_below _ _ _).trans (h4.mono (by rw [box_size]; omega))⟩
          clear hf hi
          go_wp2_with fail
          go_ret
          exact ⟨r, rfl, HF.out⟩
        | succ k =>
          obtain ⟨l, h1, h2, h3, h4, h5⟩ := HS.out.out
          obtain ⟨x, hx⟩ : ∃ x, x = zs.getD k 0 := ⟨_, rfl⟩
          have hxl : x < 1000000000 := by rw [hx]; exact Pl.dig_getD (by decide) HG.out.2.1 k
          have cb : wr.cell? ⟨w.heap.size, 1, none⟩ = some (.slice (some ⟨b, off, none⟩) (m + 1) cap) := by
            rw [h4.cell (p := ⟨w.heap.size, 1, none⟩) (by rw [box_size]; exact Nat.lt_succ_self _)]
            exact box_cell _ _ _
          have cd : wr.cell? ⟨b, off + k, none⟩ = some (.int .u64 (x : Int)) := by
            rw [h4.cell (p := ⟨b, off + k, none⟩) (by rw [box_size]; show b < _; omega), hx, ← HCell.out k (by omega)]
            exact World.cell?_alloc_lt _ _ _ hlt
          have hlw : (box w false (.slice (some ⟨b, off, none⟩) (m + 1) cap)).heap.size ≤ wr.heap.size := h4.size
          have H2 := Hid.mk h2
          have H4 := Hid.mk h4
          have HX := Hid.mk hx
          have hml := HM.out
          have hki : (k : Int) < (m : Int) + 1 := by omega
          have hk0 : (0 : Int) ≤ (k : Int) := by omega
          clear h2 h4 hx
          rw [show ((k + 1 : Nat) : Int) - 1 = (k : Int) by omega]
          go_wp2_with fail
          refine (w_writeGroup (box w false (.slice (some ⟨b, off, none⟩) (m + 1) cap)).heap.size _ l n x wr h3 h1 hlw (by omega) hxl).mono ?_
          rintro e wn ⟨vn, rfl, hw⟩
          obtain ⟨g', cap', hvn, hstn⟩ := TxtSt.step h1 H2.out H4.out h5 (by omega) HX.out.symm hw
          have HStn := Hid.mk hstn
          subst hvn
          clear hw hstn
          go_wp2_with fail
          go_roundw
          case measure => simp [intOf]
          exact ⟨k, g', n + 9, cap', by omega, rfl, int_eq (by omega), HStn⟩
    · go_enter Tryd.func49, Tryd.ntmps49
      have hown0 := own_bytes (box w true (.slice (some ⟨b, off, none⟩) (m + 1) cap)) (9 * (m + 1) + 1) (by omega)
      rw [box_size] at hown0
      go_wp2_with (at_builtin; refine wpList_append_own _ rfl _ _ 75 rfl (w.heap.size + 1) 5 i0 (.int .u8 0) 1 1 Tryd.underlying75 hi0 hz0 hz1 hz2 rfl (by decide) _ _ _ rfl (hown0.alloc _) ⟨w.heap.size + 2, 0, none⟩ 1 1 [.int .u8 45] rfl rfl (World.news_of_block (cs := #[.int .u8 45]) (t := 5) (fr := (0, 0)) (by have h := heap_alloc_new ((box w true (.slice (some ⟨b, off, none⟩) (m + 1) cap)).alloc (brow (9 * (m + 1) + 1))) (.cells #[.int .u8 45] 5); rw [World.size_alloc, box_size] at h; exact h)) (by intro u hu; simp at hu; subst hu; rfl) (by unfold maxLen; omega) (by omega) (by simp [box]) ?_)
      intro v4 w4 hown4 hgrow4 _
      have hb4 : Below (w.heap.size + 1) (box w true (.slice (some ⟨b, off, none⟩) (m + 1) cap)) w4 := (((Below.refl (w.heap.size + 1) (box w true (.slice (some ⟨b, off, none⟩) (m + 1) cap))).alloc (by rw [box_size]; omega) (brow (9 * (m + 1) + 1))).alloc (by simp [box]) _).grown hgrow4 (by simp [box]) (own_base hown0)
      rw [← box_size w true (.slice (some ⟨b, off, none⟩) (m + 1) cap)] at hb4
      have HB4 := Hid.mk hb4
      have c4 : w4.cell? ⟨b, off + m, none⟩ = some (.int .u64 (u : Int)) := by
        rw [hb4.cell (p := ⟨b, off + m, none⟩) (by rw [box_size]; show b < _; omega), ← c0]
        exact World.cell?_alloc_lt _ _ _ hlt
      have cb4 : w4.cell? ⟨w.heap.size, 1, none⟩ = some (.slice (some ⟨b, off, none⟩) (m + 1) cap) := by
        rw [hb4.cell (p := ⟨w.heap.size, 1, none⟩) (by rw [box_size]; exact Nat.lt_succ_self _)]
        exact box_cell _ _ _
      have htb := (HT.out.keep (box_below w true (.slice (some ⟨b, off, none⟩) (m + 1) cap))).keep hb4
      have HTB := Hid.mk htb
      have hsz4 : w.heap.size + 1 ≤ w4.heap.size := by have := hb4.size; rw [box_size] at this; exact this
      obtain ⟨g4, cap4, hv4⟩ := own_some hown4 (by omega)
      have HO4 := Hid.mk hown4
      subst hv4
      clear hb4 htb hgrow4 hown4 hown0
      go_wp2_with fail
      refine (w_AppendUint (w.heap.size + 1) 1 u hul _ (Lib.byteCells [45]) _ HO4.out hsz4 (by omega) HTB.out).mono ?_
      rintro e w3 ⟨v3, rfl, hown3, hb3⟩
      rw [← box_size w true (.slice (some ⟨b, off, none⟩) (m + 1) cap)] at hown3 hb3
      obtain ⟨g, cap3, N, hv3, hst⟩ := TxtSt.start (w1 := (box w true (.slice (some ⟨b, off, none⟩) (m + 1) cap))) (w2 := w4) (bl := true) (zs := zs) (k := m) (l := [45]) (n := 1) rfl rfl HM.out HU.out.symm HG.out.2.2 HG.out.2.1 hown3 HB4.out hb3
      have HSt := Hid.mk hst
      subst hv3
      clear hown3 hb3 hst c0 hmk c4 cb4
      go_wp2_with fail
      go_loopw [3, 5] (fun o i wr => ∃ (k g n cp : Nat), k ≤ m ∧ o = .slice (some ⟨g, 0, none⟩) n cp ∧ i = .int .i64 ((k : Int) - 1) ∧ Hid (TxtSt (box w true (.slice (some ⟨b, off, none⟩) (m + 1) cap)) wr g n cp true zs k)) (fun _ i _ => (intOf i + 1).toNat)
      case atStart => exact ⟨m, g, N, cap3, Nat.le_refl _, rfl, int_eq (by omega), HSt⟩
      case round =>
        obtain ⟨k, g, n, cp, hk, rfl, rfl, HS⟩ := hrel
        cases k with
        | zero =>
          obtain ⟨r, hcv, hf, hi⟩ := HS.out.conv
          have HF : Hid (Pl.formed r.data.toList = true ∧ Pl.ival r.data.toList = sgn true (Pl.val 1000000000 zs) ∧ Below w.heap.size w wr) := by
            obtain ⟨l, h1, h2, h3, h4, h5⟩ := HS.out.out
            exact ⟨hf, hi, (box_below _ _ _).trans (h4.mono (by rw [box_size]; omega))⟩
          clear hf hi
          go_wp2_with fail
          go_ret
          exact ⟨r, rfl, HF.out⟩
        | succ k =>
          obtain ⟨l, h1, h2, h3, h4, h5⟩ := HS.out.out
          obtain ⟨x, hx⟩ : ∃ x, x = zs.getD k 0 := ⟨_, rfl⟩
          have hxl : x < 1000000000 := by rw [hx]; exact Pl.dig_getD (by decide) HG.out.2.1 k
          have cb : wr.cell? ⟨w.heap.size, 1, none⟩ = some (.slice (some ⟨b, off, none⟩) (m + 1) cap) := by
            rw [h4.cell (p := ⟨w.heap.size, 1, none⟩) (by rw [box_size]; exact Nat.lt_succ_self _)]
            exact box_cell _ _ _
          have cd : wr.cell? ⟨b, off + k, none⟩ = some (.int .u64 (x : Int)) := by
            rw [h4.cell (p := ⟨b, off + k, none⟩) (by rw [box_size]; show b < _; omega), hx, ← HCell.out k (by omega)]
            exact World.cell?_alloc_lt _ _ _ hlt
          have hlw : (box w true (.slice (some ⟨b, off, none⟩) (m + 1) cap)).heap.size ≤ wr.heap.size := h4.size
          have H2 := Hid.mk h2
          have H4 := Hid.mk h4
          have HX := Hid.mk hx
          have hml := HM.out
          have hki : (k : Int) < (m : Int) + 1 := by omega
          have hk0 : (0 : Int) ≤ (k : Int) := by omega
          clear h2 h4 hx
          rw [show ((k + 1 : Nat) : Int) - 1 = (k : Int) by omega]
          go_wp2_with fail
          refine (w_writeGroup (box w true (.slice (some ⟨b, off, none⟩) (m + 1) cap)).heap.size _ l n x wr h3 h1 hlw (by omega) hxl).mono ?_
          rintro e wn ⟨vn, rfl, hw⟩
          obtain ⟨g', cap', hvn, hstn⟩ := TxtSt.step h1 H2.out H4.out h5 (by omega) HX.out.symm hw
          have HStn := Hid.mk hstn
          subst hvn
          clear hw hstn
          go_wp2_with fail
          go_roundw
          case measure => simp [intOf]
          exact ⟨k, g', n + 9, cap', by omega, rfl, int_eq (by omega), HStn⟩
end Go.Proofs.YtfcbeohkhljboaaDoor
