import Derived.Test.YtapjfocjeligiaaGreatDoorM33
import Derived.Test.YtapjfocjeligiaaGreatDoorM34
import Derived.Test.YtapjfocjeligiaaGreatDoorM26
import Derived.Test.YtapjfocjeligiaaGreatDoorM39
import Derived.Test.YtapjfocjeligiaaGreatDoorM40
namespace Go.Proofs.YtapjfocjeligiaaGreatDoor
open Go.RowKit Go.Shelf Go.Sort
set_option linter.unusedVariables false
set_option linter.unusedSimpArgs false
attribute [local go_sem] Oper.semAt_some

theorem w_here (r : Int) (w : World) : Calls Tryz.prog 36 #[.int .i64 r] w fun e w' => (∃ v, e = .returned v ∧ ErV w' (some ([], r)) v) ∧ Below w.heap.size w w' := by
  have HF : Hid (ErC (w.alloc (.cells #[.int .i64 r] 85)) [] r 77 w.heap.size) := ⟨rfl, by simp, by simp [go_sem]⟩
  have HB := Hid.mk (below1 w (.cells #[.int .i64 r] 85))
  go_enter Tryz.func36, Tryz.ntmps36
  go_wp2_with fail
  go_ret
  exact ⟨⟨_, rfl, _, _, rfl, HF.out⟩, HB.out⟩

theorem w_atField (s : ByteArray) (q : List VT × Int) (v : Value) (w : World) (hsz : s.size ≤ 140737488355328) (hv : ErV w (some q) v) : Calls Tryz.prog 93 #[.string s, v] w fun e w' => (∃ x, e = .returned x ∧ ErV w' (some (stT s :: q.1, q.2)) x) ∧ Below w.heap.size w w' := by
  obtain ⟨t, b, rfl, hv⟩ := hv
  have HB := Hid.mk (below1 w (.cells #[.int .i64 4, .string ⟨#[]⟩, .string s, .slice none 0 0, .slice none 0 0, .iface t (.pointer (some ⟨b, 0, none⟩))] 83))
  have HF : Hid (ErC (w.alloc (.cells #[.int .i64 4, .string ⟨#[]⟩, .string s, .slice none 0 0, .slice none 0 0, .iface t (.pointer (some ⟨b, 0, none⟩))] 83)) (stT s :: q.1) q.2 80 w.heap.size) := ⟨t, b, rfl, by simp, ⟨⟨rfl, rfl, by first | exact hsz | exact Nat.zero_le _, by first | exact hsz | exact Nat.zero_le _⟩, by simp [go_sem]; rfl, by simp [go_sem]; rfl, by simp [go_sem]; rfl, by simp [go_sem], by simp [go_sem]⟩, by simp [go_sem], hv.lt, hv.keep HB.out⟩
  clear hv hsz
  go_enter Tryz.func93, Tryz.ntmps93
  go_wp2_with fail
  go_ret
  exact ⟨⟨_, rfl, _, _, rfl, HF.out⟩, HB.out⟩

theorem w_atItem (s : ByteArray) (q : List VT × Int) (v : Value) (w : World) (hsz : s.size ≤ 140737488355328) (hv : ErV w (some q) v) : Calls Tryz.prog 62 #[.string s, v] w fun e w' => (∃ x, e = .returned x ∧ ErV w' (some ((.mk 3 s ⟨#[]⟩ [] []) :: q.1, q.2)) x) ∧ Below w.heap.size w w' := by
  obtain ⟨t, b, rfl, hv⟩ := hv
  have HB := Hid.mk (below1 w (.cells #[.int .i64 3, .string s, .string ⟨#[]⟩, .slice none 0 0, .slice none 0 0, .iface t (.pointer (some ⟨b, 0, none⟩))] 83))
  have HF : Hid (ErC (w.alloc (.cells #[.int .i64 3, .string s, .string ⟨#[]⟩, .slice none 0 0, .slice none 0 0, .iface t (.pointer (some ⟨b, 0, none⟩))] 83)) ((.mk 3 s ⟨#[]⟩ [] []) :: q.1) q.2 80 w.heap.size) := ⟨t, b, rfl, by simp, ⟨⟨rfl, rfl, by first | exact hsz | exact Nat.zero_le _, by first | exact hsz | exact Nat.zero_le _⟩, by simp [go_sem]; rfl, by simp [go_sem]; rfl, by simp [go_sem]; rfl, by simp [go_sem], by simp [go_sem]⟩, by simp [go_sem], hv.lt, hv.keep HB.out⟩
  clear hv hsz
  go_enter Tryz.func62, Tryz.ntmps62
  go_wp2_with fail
  go_ret
  exact ⟨⟨_, rfl, _, _, rfl, HF.out⟩, HB.out⟩

theorem w_notAbove (a b : ByteArray) (w : World) (ha : a.size ≤ 140737488355328) (hb : b.size ≤ 140737488355328) :
    Calls Tryz.prog 60 #[.string a, .string b] w fun e w' => e = .returned (.bool (nab a b)) ∧ Below w.heap.size w w' := by
  have HC := Hid.mk (fun u => w_Cmp a b u (by simp [maxLen]; omega) (by simp [maxLen]; omega))
  have HA : Hid (∀ c, Pl.cmpN a.data.toList b.data.toList = c → nab a b = (a.toList.isEmpty || (b.toList.isEmpty || decide (c ≤ 0)))) := fun c h => by rw [← h]; rfl
  generalize Pl.cmpN a.data.toList b.data.toList = c at HC HA
  generalize Pl.errN a.data.toList b.data.toList = c2 at HC
  have HB0 := Hid.mk (Below.refl w.heap.size w)
  rw [HA.out c rfl]
  clear HA
  by_cases h1 : a.toList = []
  · have h2 : (a.toList.isEmpty || (b.toList.isEmpty || decide (c ≤ 0))) = true := by rw [h1]; rfl
    rw [h2]
    go_enter Tryz.func60, Tryz.ntmps60
    go_wp2_with fail
    go_ret
    exact ⟨rfl, HB0.out⟩
  · have h1' : a.toList.isEmpty = false := by cases h : a.toList with
      | nil => exact absurd h h1
      | cons => rfl
    by_cases h3 : b.toList = []
    · have h2 : (a.toList.isEmpty || (b.toList.isEmpty || decide (c ≤ 0))) = true := by rw [h3]; simp
      rw [h2]
      go_enter Tryz.func60, Tryz.ntmps60
      go_wp2_with fail
      go_ret
      exact ⟨rfl, HB0.out⟩
    · have h3' : b.toList.isEmpty = false := by cases h : b.toList with
        | nil => exact absurd h h3
        | cons => rfl
      have h2 : (a.toList.isEmpty || (b.toList.isEmpty || decide (c ≤ 0))) = decide (c ≤ 0) := by rw [h1', h3']; rfl
      rw [h2]
      clear h2
      go_enter Tryz.func60, Tryz.ntmps60
      go_wp2_with fail
      refine (HC.out _).mono ?_
      rintro e w1 ⟨rfl, hb1⟩
      have HB := Hid.mk hb1
      clear hb1
      go_wp2_with fail
      go_ret
      exact ⟨by first | rfl | simp, HB.out⟩

set_option maxRecDepth 100000 in
set_option maxHeartbeats 6400000 in
theorem w_agSpan (n l h : ByteArray) (w : World) (h0 : n.size ≤ 140737488355328) (h1 : l.size ≤ 140737488355328) (h2 : h.size ≤ 140737488355328) :
    Calls Tryz.prog 37 #[.string n, .agg #[.string l, .string h]] w fun e w' => (∃ v, e = .returned v ∧ ErV w' (agSp n (l, h)) v) ∧ Below w.heap.size w w' := by
  have H1 := Hid.mk (fun u => w_notAbove l n u h1 h0)
  have H2 := Hid.mk (fun u => w_notAbove n h u h0 h2)
  have HH := Hid.mk (fun u => w_here 2 u)
  obtain ⟨R, hR⟩ : ∃ R, agSp n (l, h) = R := ⟨_, rfl⟩
  have HR : Hid (R = if nab l n && nab n h then none else some ([], 2)) := hR.symm
  rw [hR]
  clear hR
  generalize nab l n = p at *
  generalize nab n h = q at *
  have HX := Hid.mk (s1x_new w (.string l) (.string h))
  obtain ⟨W0, hW0⟩ : ∃ W0, w.alloc (.cells #[.string l, .string h] 23) = W0 := ⟨_, rfl⟩
  rw [hW0] at HX
  have c0 := HX.out.c0
  go_enter Tryz.func37, Tryz.ntmps37
  go_wp2_with fail
  refine (H1.out _).mono ?_
  rintro e v1 ⟨rfl, hq⟩
  have HX1 := Hid.mk (HX.out.keep hq)
  have c1 := HX1.out.c1
  clear hq c0 hW0
  cases p
  · have HF : Hid (R = some ([], 2)) := by show _ = _; rw [HR.out]; rfl
    go_wp2_with fail
    refine (HH.out _).mono ?_
    rintro e v3 ⟨⟨x, rfl, hx⟩, hq⟩
    have HE := Hid.mk hx
    have HB := Hid.mk (HX1.out.keep hq).below
    clear hq hx
    go_wp2_with fail
    go_ret
    exact ⟨⟨_, rfl, by rw [HF.out]; exact HE.out⟩, HB.out⟩
  · go_wp2_with fail
    refine (H2.out _).mono ?_
    rintro e v2 ⟨rfl, hq⟩
    have HX2 := Hid.mk (HX1.out.keep hq)
    clear hq c1
    cases q
    · have HF : Hid (R = some ([], 2)) := by show _ = _; rw [HR.out]; rfl
      go_wp2_with fail
      refine (HH.out _).mono ?_
      rintro e v3 ⟨⟨x, rfl, hx⟩, hq⟩
      have HE := Hid.mk hx
      have HB := Hid.mk (HX2.out.keep hq).below
      clear hq hx
      go_wp2_with fail
      go_ret
      exact ⟨⟨_, rfl, by rw [HF.out]; exact HE.out⟩, HB.out⟩
    · have HF : Hid (R = none) := by show _ = _; rw [HR.out]; rfl
      go_wp2_with fail
      go_ret
      exact ⟨⟨_, rfl, by rw [HF.out]; rfl⟩, HX2.out.below⟩

set_option maxRecDepth 100000 in
set_option maxHeartbeats 6400000 in
theorem w_agTexts (s : ByteArray) (h : Nat) (T : TT) (vt : Value) (w : World) (hT : InT w (h + 1) T vt) (hr : rK T.texts T.texts.length = true) :
    Calls Tryz.prog 38 #[.string s, vt] w fun e w' => (∃ v, e = .returned v ∧ ErV w' (agTx s T) v) ∧ Below w.heap.size w w' := by
  obtain ⟨no, nc, xo, xc, ao, ac, oo, oc, rfl, ⟨y1, h1, y2⟩, ⟨y3, h2, y4⟩, y5, y6, y7, hk, y8, y9⟩ := hT
  clear y1 y2 y3 y4 y5 y6 y7 y8 y9
  have HC := Hid.mk (fun u (hu : Below w.heap.size w u) => w_BinS xo T.texts.length xc T.texts s u (hk.keep hu) rfl h1 h2 hr)
  have HH := Hid.mk (fun u => w_here 3 u)
  obtain ⟨R, hR⟩ : ∃ R, agTx s T = R := ⟨_, rfl⟩
  have HR : Hid (R = if hasK T.texts s || T.any then none else some ([], 3)) := hR.symm
  rw [hR]
  clear hR hk hr h1 h2
  generalize hasK T.texts s = q at *
  generalize T.texts.length = nx at *
  generalize T.any = b5 at *
  generalize T.all = b0 at *
  generalize T.nul = b1 at *
  generalize T.fls = b2 at *
  generalize T.tru = b3 at *
  generalize T.nums.length = nn at *
  generalize T.arrs.length = NA at *
  generalize T.objs.length = NO at *
  have HX := Hid.mk (bx1_new w #[.bool b0, .bool b1, .bool b2, .bool b3, .slice no nn nc, .bool b5, .slice xo nx xc, .slice ao NA ac, .slice oo NO oc] 29)
  obtain ⟨W0, hW0⟩ : ∃ W0, w.alloc (.cells #[.bool b0, .bool b1, .bool b2, .bool b3, .slice no nn nc, .bool b5, .slice xo nx xc, .slice ao NA ac, .slice oo NO oc] 29) = W0 := ⟨_, rfl⟩
  rw [hW0] at HX
  have p6 : W0.cell? ⟨w.heap.size, 6, none⟩ = some (.slice xo nx xc) := HX.out.one 6
  have p5 : W0.cell? ⟨w.heap.size, 5, none⟩ = some (.bool b5) := HX.out.one 5
  go_enter Tryz.func38, Tryz.ntmps38
  go_wp2_with fail
  refine (HC.out _ HX.out.below).mono ?_
  rintro e v1 ⟨⟨m, rfl⟩, rfl⟩
  cases q
  · cases b5
    · have HF : Hid (R = some ([], 3)) := by show _ = _; rw [HR.out]; rfl
      go_wp2_with fail
      refine (HH.out _).mono ?_
      rintro e v3 ⟨⟨x, rfl, hx⟩, hq⟩
      have HE := Hid.mk hx
      have HB := Hid.mk (HX.out.keep hq).below
      clear hq hx
      go_wp2_with fail
      go_ret
      exact ⟨⟨_, rfl, by rw [HF.out]; exact HE.out⟩, HB.out⟩
    · have HF : Hid (R = none) := by show _ = _; rw [HR.out]; rfl
      go_wp2_with fail
      go_ret
      exact ⟨⟨_, rfl, by rw [HF.out]; rfl⟩, HX.out.below⟩
  · have HF : Hid (R = none) := by show _ = _; rw [HR.out]; rfl
    go_wp2_with fail
    go_ret
    exact ⟨⟨_, rfl, by rw [HF.out]; rfl⟩, HX.out.below⟩
end Go.Proofs.YtapjfocjeligiaaGreatDoor
