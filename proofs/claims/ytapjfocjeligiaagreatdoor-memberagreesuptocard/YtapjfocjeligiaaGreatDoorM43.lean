import Derived.Test.YtapjfocjeligiaaGreatDoorM41
import Derived.Test.YtapjfocjeligiaaGreatDoorM38
import Derived.Test.YtapjfocjeligiaaGreatDoorM42
import Derived.Lib.AppendIntMem
import Derived.Lib.ItoaLen
import Derived.Test.YtapjfocjeligiaaGreatDoorM40
namespace Go.Proofs.YtapjfocjeligiaaGreatDoor
open Go.RowKit Go.Shelf Go.Sort
set_option linter.unusedVariables false
set_option linter.unusedSimpArgs false
attribute [local go_sem] Oper.semAt_some

def Tab2 (w : World) : Prop := Lib.TabIs Tryz.prog w "internal/strconv.uint64pow10" .u64 Lib.pow10Tab
theorem Tab2.keep {w w' : World} (h : Tab2 w) (hb : Below w.heap.size w w') : Tab2 w' := Lib.tabBelow_of_tabIs h _ hb
theorem grow_below (w : World) (k : Nat) (os : Array Obj) : Below w.heap.size w (Sort.grow (w.drewN k) os) :=
  ⟨rfl, rfl, rfl, by simp [Sort.grow, World.drewN], fun j hj => by show (w.heap ++ os)[j]? = _; rw [Array.getElem?_append_left hj]⟩
theorem itoa_sz (k : Nat) (hk : k ≤ 140737488355328) : (⟨(Lib.itoa (k : Int)).toArray⟩ : ByteArray).size ≤ 140737488355328 := by
  have h := Lib.itoa_length_le (k : Int) (by omega) (by omega)
  show (Lib.itoa (k : Int)).toArray.size ≤ _
  rw [List.size_toArray]; omega
/-- against answers so -/
def AgOk (h : Nat) : Prop := ∀ (hv : Nat) (V : VT) (T : TT) (vv vt : Value) (w : World), InH w hv V vv → formN hv V = true → fmN h T = true → InT w h T vt → Tab2 w → Calls Tryz.prog 20 #[vv, vt] w fun e w' => (∃ v, e = .returned v ∧ ErV w' (agN h V T) v) ∧ Below w.heap.size w w'

set_option maxRecDepth 100000 in
set_option maxHeartbeats 800000 in
theorem w_tOf (n : Int) (h0 : -9223372036854775808 ≤ n) (h1 : n ≤ 9223372036854775807) (w : World) (htab : Tab2 w) :
    Calls Tryz.prog 63 #[.int .i64 n] w fun e w' => e = .returned (.string ⟨(Lib.itoa n).toArray⟩) ∧ Below w.heap.size w w' := by
  have HT := Hid.mk htab
  have HI := Hid.mk (And.intro h0 h1)
  clear htab h0 h1
  go_enter Tryz.func63, Tryz.ntmps63
  go_wp2_with fail
  refine (Tryz.strconv_Itoa n HI.out.1 HI.out.2 _ HT.out).mono ?_
  rintro e w1 ⟨rfl, k, os, rfl⟩
  have HB := Hid.mk (grow_below w k os)
  generalize Sort.grow (w.drewN k) os = u at *
  go_wp2_with fail
  go_ret
  exact ⟨rfl, HB.out⟩

set_option maxRecDepth 100000 in
set_option maxHeartbeats 6400000 in
theorem w_agArr (h : Nat) (ih : AgOk h) (hv : Nat) (io : Option Addr) (N icap : Nat) (its : List VT) (a : AR) (c0 c1 c2 c3 c4 c5 c6 c7 c8 : Value) (w : World) (hi : IIn w hv io its) (hN : its.length = N) (hc : N ≤ icap) (hN2 : N ≤ 140737488355328) (hf : ∀ x ∈ its, formN hv x = true) (hg : fmN h a.item = true) (ha : InT w h a.item (.agg #[c0, c1, c2, c3, c4, c5, c6, c7, c8])) (ht : Tab2 w) :
    Calls Tryz.prog 39 #[.slice io N icap, .agg #[c0, c1, c2, c3, c4, c5, c6, c7, c8, .int .i64 a.min, .int .i64 a.max]] w fun e w' => (∃ v, e = .returned v ∧ ErV w' (agAr (agN h) its a) v) ∧ Below w.heap.size w w' := by
  have HIN := Hid.mk hi
  have HNN := Hid.mk hN
  have HIV := Hid.mk (fun (x : VT) (hx : x ∈ its) (vx : Value) (u : World) (hu : Below w.heap.size w u) (hxi : InH u hv x vx) => ih hv x a.item vx _ u hxi (hf x hx) hg (ha.keep hu) (ht.keep hu))
  have HT := Hid.mk ht
  have HH4 := Hid.mk (fun u => w_here 4 u)
  have HH5 := Hid.mk (fun u => w_here 5 u)
  have HAI := Hid.mk (fun (s : ByteArray) (q : List VT × Int) (v : Value) (u : World) (hz : s.size ≤ 140737488355328) (hv : ErV u (some q) v) => w_atItem s q v u hz hv)
  obtain ⟨sa, sb, sc, sd, ⟨seo, sen, sec⟩, sf, ⟨sgo, sgn, sgc⟩, ⟨sio, sinn, sic⟩, ⟨sjo, sjn, sjc⟩, eshs⟩ := inT_shape ha
  simp only [Value.agg.injEq, Array.mk.injEq, List.cons.injEq, and_true] at eshs
  obtain ⟨rfl, rfl, rfl, rfl, rfl, rfl, rfl, rfl, rfl⟩ := eshs
  obtain ⟨R, hR⟩ : ∃ R, agAr (agN h) its a = R := ⟨_, rfl⟩
  have HR : Hid (R = if (N : Int) < a.min then some ([], 4) else if 0 ≤ a.max ∧ a.max < (N : Int) then some ([], 5) else agIt (agN h) a.item 0 its) := by show _ = _; rw [← hR, ← hN]; rfl
  rw [hR]
  obtain ⟨IT, hIT⟩ : ∃ IT, a.item = IT := ⟨_, rfl⟩
  simp only [hIT] at HR HIV
  generalize a.min = m1 at *
  generalize a.max = n1 at *
  clear hi hN ih hf hg ha hR hIT ht
  have HX := Hid.mk (bx1_new w #[.bool sa, .bool sb, .bool sc, .bool sd, .slice seo sen sec, .bool sf, .slice sgo sgn sgc, .slice sio sinn sic, .slice sjo sjn sjc, .int .i64 m1, .int .i64 n1] 31)
  obtain ⟨W0, hW0⟩ : ∃ W0, w.alloc (.cells #[.bool sa, .bool sb, .bool sc, .bool sd, .slice seo sen sec, .bool sf, .slice sgo sgn sgc, .slice sio sinn sic, .slice sjo sjn sjc, .int .i64 m1, .int .i64 n1] 31) = W0 := ⟨_, rfl⟩
  rw [hW0] at HX
  have p9 : W0.cell? ⟨w.heap.size, 9, none⟩ = some (.int .i64 m1) := HX.out.one 9
  have p10 : W0.cell? ⟨w.heap.size, 10, none⟩ = some (.int .i64 n1) := HX.out.one 10
  by_cases q1 : (N : Int) < m1
  · have HF : Hid (R = some ([], 4)) := by show _ = _; rw [HR.out, if_pos q1]
    clear HR
    go_enter Tryz.func39, Tryz.ntmps39
    go_wp2_with fail
    refine (HH4.out _).mono ?_
    rintro e v3 ⟨⟨x, rfl, hx⟩, hq⟩
    have HE := Hid.mk hx
    have HB := Hid.mk (HX.out.keep hq).below
    clear hq hx
    go_wp2_with fail
    go_ret
    exact ⟨⟨_, rfl, by rw [HF.out]; exact HE.out⟩, HB.out⟩
  · by_cases q2 : 0 ≤ n1 ∧ n1 < (N : Int)
    · have HF : Hid (R = some ([], 5)) := by show _ = _; rw [HR.out, if_neg q1, if_pos q2]
      obtain ⟨q2, q3⟩ := q2
      clear HR
      go_enter Tryz.func39, Tryz.ntmps39
      go_wp2_with fail
      refine (HH5.out _).mono ?_
      rintro e v3 ⟨⟨x, rfl, hx⟩, hq⟩
      have HE := Hid.mk hx
      have HB := Hid.mk (HX.out.keep hq).below
      clear hq hx
      go_wp2_with fail
      go_ret
      exact ⟨⟨_, rfl, by rw [HF.out]; exact HE.out⟩, HB.out⟩
    · have HR2 : Hid (R = agIt (agN h) IT 0 its) := by show _ = _; rw [HR.out, if_neg q1, if_neg q2]
      clear HR
      go_enter Tryz.func39, Tryz.ntmps39
      by_cases q3 : 0 ≤ n1
      · have q4 : ¬ n1 < (N : Int) := by omega
        clear q2
        go_wp2_with fail
        go_loopw [29] (fun i wr => ∃ k : Nat, k ≤ N ∧ i = .int .i64 (k : Int) ∧ Hid (Bx1 w wr #[.bool sa, .bool sb, .bool sc, .bool sd, .slice seo sen sec, .bool sf, .slice sgo sgn sgc, .slice sio sinn sic, .slice sjo sjn sjc, .int .i64 m1, .int .i64 n1]) ∧ Hid (∀ j, (hj : j < its.length) → j < k → agN h its[j] IT = none)) (fun i _ => N - (intOf i).toNat)
        case atStart => exact ⟨0, Nat.zero_le _, rfl, HX, fun j _ hj => absurd hj (Nat.not_lt_zero _)⟩
        case round =>
          clear p9 p10 HX
          obtain ⟨k, hk, rfl, HX, HQ⟩ := hrel
          by_cases hlt : k < N
          · have hl1 : (k : Int) < (N : Int) := by omega
            have hl0 : (0 : Int) ≤ (k : Int) := by omega
            have hkl : k < its.length := by rw [HNN.out]; exact hlt
            obtain ⟨b, off, hko, hbl, hrow⟩ := (HIN.out.keep HX.out.below).row (by omega)
            subst hko
            obtain ⟨v0, v1, v2, v3, v4, ⟨x0, x1, x2, x3, x4⟩, ht⟩ := hrow k hkl
            obtain ⟨ik, inm, itx, iio, iN, iicap, iko, iK, ikcap, rfl, rfl, rfl, rfl, rfl⟩ := ht.shape
            obtain ⟨W1, hW1⟩ : ∃ W1, wr.alloc (.cells #[.int .i64 ik, .string inm, .string itx, .slice iio iN iicap, .slice iko iK ikcap] 37) = W1 := ⟨_, rfl⟩
            have hB1 : Below wr.heap.size wr W1 := by rw [← hW1]; exact below1 wr _
            have HX1 := Hid.mk (HX.out.keep hB1)
            have p0 : W1.cell? ⟨w.heap.size, 0, none⟩ = some (.bool sa) := HX1.out.one 0
            have p1 : W1.cell? ⟨w.heap.size, 1, none⟩ = some (.bool sb) := HX1.out.one 1
            have p2 : W1.cell? ⟨w.heap.size, 2, none⟩ = some (.bool sc) := HX1.out.one 2
            have p3 : W1.cell? ⟨w.heap.size, 3, none⟩ = some (.bool sd) := HX1.out.one 3
            have p4 : W1.cell? ⟨w.heap.size, 4, none⟩ = some (.slice seo sen sec) := HX1.out.one 4
            have p5 : W1.cell? ⟨w.heap.size, 5, none⟩ = some (.bool sf) := HX1.out.one 5
            have p6 : W1.cell? ⟨w.heap.size, 6, none⟩ = some (.slice sgo sgn sgc) := HX1.out.one 6
            have p7 : W1.cell? ⟨w.heap.size, 7, none⟩ = some (.slice sio sinn sic) := HX1.out.one 7
            have p8 : W1.cell? ⟨w.heap.size, 8, none⟩ = some (.slice sjo sjn sjc) := HX1.out.one 8
            have y0 : W1.cell? ⟨wr.heap.size, 0, none⟩ = some (.int .i64 ik) := by rw [← hW1]; simp [go_sem]
            have y1 : W1.cell? ⟨wr.heap.size, 1, none⟩ = some (.string inm) := by rw [← hW1]; simp [go_sem]
            have y2 : W1.cell? ⟨wr.heap.size, 2, none⟩ = some (.string itx) := by rw [← hW1]; simp [go_sem]
            have y3 : W1.cell? ⟨wr.heap.size, 3, none⟩ = some (.slice iio iN iicap) := by rw [← hW1]; simp [go_sem]
            have y4 : W1.cell? ⟨wr.heap.size, 4, none⟩ = some (.slice iko iK ikcap) := by rw [← hW1]; simp [go_sem]
            have HC := Hid.mk (HIV.out its[k] (List.getElem_mem hkl) _ W1 HX1.out.below (ht.keep hB1))
            have HNx : Hid (agN h its[k] IT = none → ∀ j, (hj : j < its.length) → j < k + 1 → agN h its[j] IT = none) := fun hh j hj hj2 => by
              by_cases e : j = k
              · subst e; exact hh
              · exact HQ.out j hj (by omega)
            have HAt : Hid (∀ q, agN h its[k] IT = some q → R = some (stN k :: q.1, q.2)) := fun q hh => by rw [HR2.out]; exact agIt_at hkl HQ.out hh
            obtain ⟨r, hr⟩ : ∃ r, agN h its[k] IT = r := ⟨_, rfl⟩
            rw [hr] at HC HNx HAt
            clear hr hrow ht hkl hB1 hbl
            cases r with
            | none =>
              have HN := Hid.mk (HNx.out rfl)
              clear HNx HAt HQ
              go_wp2_with fail
              refine HC.out.mono ?_
              rintro e w2 ⟨⟨x, rfl, hx⟩, hb2⟩
              obtain rfl : x = .nilIface := hx
              have HX2 := Hid.mk (HX1.out.keep hb2)
              clear hb2 x0 x1 x2 x3 x4 p0 p1 p2 p3 p4 p5 p6 p7 p8 y0 y1 y2 y3 y4
              go_wp2_with fail
              go_roundw
              case rel => exact ⟨k + 1, hlt, by go_num, HX2, HN⟩
              case measure => simp [intOf]; omega
            | some q =>
              have HF := Hid.mk (HAt.out q rfl)
              clear HNx HAt HQ
              go_wp2_with fail
              refine HC.out.mono ?_
              rintro e w2 ⟨⟨x, rfl, hx⟩, hb2⟩
              have HX2 := Hid.mk (HX1.out.keep hb2)
              obtain ⟨t, b2, rfl, hx⟩ := hx
              have HE := Hid.mk (show ErV w2 (some q) _ from ⟨t, b2, rfl, hx⟩)
              have HO := Hid.mk (w_tOf (k : Int) (by omega) (by omega) w2 (HT.out.keep HX2.out.below))
              clear hx hb2 x0 x1 x2 x3 x4 p0 p1 p2 p3 p4 p5 p6 p7 p8 y0 y1 y2 y3 y4
              go_wp2_with fail
              refine HO.out.mono ?_
              rintro e w3 ⟨rfl, hb3⟩
              have HX3 := Hid.mk (HX2.out.keep hb3)
              have HE3 := Hid.mk (HE.out.keep hb3)
              clear hb3
              go_wp2_with fail
              refine (HAI.out _ q _ _ (itoa_sz k (by omega)) HE3.out).mono ?_
              rintro e w4 ⟨⟨y, rfl, hy⟩, hb4⟩
              have HB4 := Hid.mk (HX3.out.keep hb4).below
              have HY := Hid.mk hy
              clear hy hb4
              go_wp2_with fail
              go_ret
              exact ⟨⟨_, rfl, by rw [HF.out]; exact HY.out⟩, HB4.out⟩
          · have hl1 : ¬ (k : Int) < (N : Int) := by omega
            have HF : Hid (R = none) := by
              show _ = _
              rw [HR2.out]
              exact agIt_end (fun j hj _ => HQ.out j hj (by have := HNN.out; omega))
            clear HQ
            go_wp2_with fail
            go_ret
            exact ⟨⟨_, rfl, by rw [HF.out]; rfl⟩, HX.out.below⟩
      · clear q2
        go_wp2_with fail
        go_loopw [29] (fun i wr => ∃ k : Nat, k ≤ N ∧ i = .int .i64 (k : Int) ∧ Hid (Bx1 w wr #[.bool sa, .bool sb, .bool sc, .bool sd, .slice seo sen sec, .bool sf, .slice sgo sgn sgc, .slice sio sinn sic, .slice sjo sjn sjc, .int .i64 m1, .int .i64 n1]) ∧ Hid (∀ j, (hj : j < its.length) → j < k → agN h its[j] IT = none)) (fun i _ => N - (intOf i).toNat)
        case atStart => exact ⟨0, Nat.zero_le _, rfl, HX, fun j _ hj => absurd hj (Nat.not_lt_zero _)⟩
        case round =>
          clear p9 p10 HX
          obtain ⟨k, hk, rfl, HX, HQ⟩ := hrel
          by_cases hlt : k < N
          · have hl1 : (k : Int) < (N : Int) := by omega
            have hl0 : (0 : Int) ≤ (k : Int) := by omega
            have hkl : k < its.length := by rw [HNN.out]; exact hlt
            obtain ⟨b, off, hko, hbl, hrow⟩ := (HIN.out.keep HX.out.below).row (by omega)
            subst hko
            obtain ⟨v0, v1, v2, v3, v4, ⟨x0, x1, x2, x3, x4⟩, ht⟩ := hrow k hkl
            obtain ⟨ik, inm, itx, iio, iN, iicap, iko, iK, ikcap, rfl, rfl, rfl, rfl, rfl⟩ := ht.shape
            obtain ⟨W1, hW1⟩ : ∃ W1, wr.alloc (.cells #[.int .i64 ik, .string inm, .string itx, .slice iio iN iicap, .slice iko iK ikcap] 37) = W1 := ⟨_, rfl⟩
            have hB1 : Below wr.heap.size wr W1 := by rw [← hW1]; exact below1 wr _
            have HX1 := Hid.mk (HX.out.keep hB1)
            have p0 : W1.cell? ⟨w.heap.size, 0, none⟩ = some (.bool sa) := HX1.out.one 0
            have p1 : W1.cell? ⟨w.heap.size, 1, none⟩ = some (.bool sb) := HX1.out.one 1
            have p2 : W1.cell? ⟨w.heap.size, 2, none⟩ = some (.bool sc) := HX1.out.one 2
            have p3 : W1.cell? ⟨w.heap.size, 3, none⟩ = some (.bool sd) := HX1.out.one 3
            have p4 : W1.cell? ⟨w.heap.size, 4, none⟩ = some (.slice seo sen sec) := HX1.out.one 4
            have p5 : W1.cell? ⟨w.heap.size, 5, none⟩ = some (.bool sf) := HX1.out.one 5
            have p6 : W1.cell? ⟨w.heap.size, 6, none⟩ = some (.slice sgo sgn sgc) := HX1.out.one 6
            have p7 : W1.cell? ⟨w.heap.size, 7, none⟩ = some (.slice sio sinn sic) := HX1.out.one 7
            have p8 : W1.cell? ⟨w.heap.size, 8, none⟩ = some (.slice sjo sjn sjc) := HX1.out.one 8
            have y0 : W1.cell? ⟨wr.heap.size, 0, none⟩ = some (.int .i64 ik) := by rw [← hW1]; simp [go_sem]
            have y1 : W1.cell? ⟨wr.heap.size, 1, none⟩ = some (.string inm) := by rw [← hW1]; simp [go_sem]
            have y2 : W1.cell? ⟨wr.heap.size, 2, none⟩ = some (.string itx) := by rw [← hW1]; simp [go_sem]
            have y3 : W1.cell? ⟨wr.heap.size, 3, none⟩ = some (.slice iio iN iicap) := by rw [← hW1]; simp [go_sem]
            have y4 : W1.cell? ⟨wr.heap.size, 4, none⟩ = some (.slice iko iK ikcap) := by rw [← hW1]; simp [go_sem]
            have HC := Hid.mk (HIV.out its[k] (List.getElem_mem hkl) _ W1 HX1.out.below (ht.keep hB1))
            have HNx : Hid (agN h its[k] IT = none → ∀ j, (hj : j < its.length) → j < k + 1 → agN h its[j] IT = none) := fun hh j hj hj2 => by
              by_cases e : j = k
              · subst e; exact hh
              · exact HQ.out j hj (by omega)
            have HAt : Hid (∀ q, agN h its[k] IT = some q → R = some (stN k :: q.1, q.2)) := fun q hh => by rw [HR2.out]; exact agIt_at hkl HQ.out hh
            obtain ⟨r, hr⟩ : ∃ r, agN h its[k] IT = r := ⟨_, rfl⟩
            rw [hr] at HC HNx HAt
            clear hr hrow ht hkl hB1 hbl
            cases r with
            | none =>
              have HN := Hid.mk (HNx.out rfl)
              clear HNx HAt HQ
              go_wp2_with fail
              refine HC.out.mono ?_
              rintro e w2 ⟨⟨x, rfl, hx⟩, hb2⟩
              obtain rfl : x = .nilIface := hx
              have HX2 := Hid.mk (HX1.out.keep hb2)
              clear hb2 x0 x1 x2 x3 x4 p0 p1 p2 p3 p4 p5 p6 p7 p8 y0 y1 y2 y3 y4
              go_wp2_with fail
              go_roundw
              case rel => exact ⟨k + 1, hlt, by go_num, HX2, HN⟩
              case measure => simp [intOf]; omega
            | some q =>
              have HF := Hid.mk (HAt.out q rfl)
              clear HNx HAt HQ
              go_wp2_with fail
              refine HC.out.mono ?_
              rintro e w2 ⟨⟨x, rfl, hx⟩, hb2⟩
              have HX2 := Hid.mk (HX1.out.keep hb2)
              obtain ⟨t, b2, rfl, hx⟩ := hx
              have HE := Hid.mk (show ErV w2 (some q) _ from ⟨t, b2, rfl, hx⟩)
              have HO := Hid.mk (w_tOf (k : Int) (by omega) (by omega) w2 (HT.out.keep HX2.out.below))
              clear hx hb2 x0 x1 x2 x3 x4 p0 p1 p2 p3 p4 p5 p6 p7 p8 y0 y1 y2 y3 y4
              go_wp2_with fail
              refine HO.out.mono ?_
              rintro e w3 ⟨rfl, hb3⟩
              have HX3 := Hid.mk (HX2.out.keep hb3)
              have HE3 := Hid.mk (HE.out.keep hb3)
              clear hb3
              go_wp2_with fail
              refine (HAI.out _ q _ _ (itoa_sz k (by omega)) HE3.out).mono ?_
              rintro e w4 ⟨⟨y, rfl, hy⟩, hb4⟩
              have HB4 := Hid.mk (HX3.out.keep hb4).below
              have HY := Hid.mk hy
              clear hy hb4
              go_wp2_with fail
              go_ret
              exact ⟨⟨_, rfl, by rw [HF.out]; exact HY.out⟩, HB4.out⟩
          · have hl1 : ¬ (k : Int) < (N : Int) := by omega
            have HF : Hid (R = none) := by
              show _ = _
              rw [HR2.out]
              exact agIt_end (fun j hj _ => HQ.out j hj (by have := HNN.out; omega))
            clear HQ
            go_wp2_with fail
            go_ret
            exact ⟨⟨_, rfl, by rw [HF.out]; rfl⟩, HX.out.below⟩
end Go.Proofs.YtapjfocjeligiaaGreatDoor
namespace Go.Proofs.YtapjfocjeligiaaGreatDoor
open Go.RowKit Go.Shelf Go.Sort
set_option linter.unusedVariables false
set_option linter.unusedSimpArgs false
attribute [local go_sem] Oper.semAt_some

/-- a box of nine cells, written over -/
theorem box9_row2 {u : World} {B : Nat} {x0 x1 x2 x3 x4 x5 x6 x7 x8 : Value} {a0 a1 a2 a3 a4 a5 a6 a7 a8 : Value} {t : TypeId} (h : u.heap[B]? = some (.cells #[x0, x1, x2, x3, x4, x5, x6, x7, x8] t (0, 0))) (wz : World) (hz : wz = (((((((((u.setCell ⟨B, 0, none⟩ a0).setCell ⟨B, 1, none⟩ a1).setCell ⟨B, 2, none⟩ a2).setCell ⟨B, 3, none⟩ a3).setCell ⟨B, 4, none⟩ a4).setCell ⟨B, 5, none⟩ a5).setCell ⟨B, 6, none⟩ a6).setCell ⟨B, 7, none⟩ a7).setCell ⟨B, 8, none⟩ a8)) : wz.heap[B]? = some (.cells #[a0, a1, a2, a3, a4, a5, a6, a7, a8] t (0, 0)) := by
  subst hz
  exact rset5i (i := 8) (c := #[a0, a1, a2, a3, a4, a5, a6, a7, x8]) a8 (rset5i (i := 7) (c := #[a0, a1, a2, a3, a4, a5, a6, x7, x8]) a7 (rset5i (i := 6) (c := #[a0, a1, a2, a3, a4, a5, x6, x7, x8]) a6 (rset5i (i := 5) (c := #[a0, a1, a2, a3, a4, x5, x6, x7, x8]) a5 (rset5i (i := 4) (c := #[a0, a1, a2, a3, x4, x5, x6, x7, x8]) a4 (rset5i (i := 3) (c := #[a0, a1, a2, x3, x4, x5, x6, x7, x8]) a3 (rset5i (i := 2) (c := #[a0, a1, x2, x3, x4, x5, x6, x7, x8]) a2 (rset5i (i := 1) (c := #[a0, x1, x2, x3, x4, x5, x6, x7, x8]) a1 (rset5i (i := 0) (c := #[x0, x1, x2, x3, x4, x5, x6, x7, x8]) a0 (h)))))))))
theorem fld_at {o : OB} {s : ByteArray} {m : Nat} (h1 : m < o.names.length) (h2 : m < o.fields.length) (h3 : m < o.must.length) (hr : rK o.names o.names.length = true) (hs : o.names[m] = s) : (fldO o s).1 = o.fields[m] := by
  have go : ∀ (ns : List ByteArray) (fs : List TT) (ms : List Bool) (m : Nat) (g1 : m < ns.length) (g2 : m < fs.length) (g3 : m < ms.length), ns[m] = s → (∀ j, (hj : j < ns.length) → j < m → ns[j] ≠ s) → (fldL ns fs ms o.rest s).1 = fs[m] := by
    intro ns
    induction ns with
    | nil => intro fs ms m g1; exact absurd g1 (Nat.not_lt_zero _)
    | cons n ns ih =>
      intro fs ms m g1 g2 g3 hm hb
      cases fs with
      | nil => exact absurd g2 (Nat.not_lt_zero _)
      | cons f fs =>
        cases ms with
        | nil => exact absurd g3 (Nat.not_lt_zero _)
        | cons mm ms =>
          cases m with
          | zero =>
            have : n = s := hm
            rw [fldL, if_pos ((eqS_iff _ _).2 this)]; rfl
          | succ m =>
            have hn : n ≠ s := hb 0 (by simp) (by omega)
            rw [fldL, if_neg (fun e => hn ((eqS_iff _ _).1 e))]
            exact ih fs ms m (by simpa using g1) (by simpa using g2) (by simpa using g3) hm (fun j hj hjm => hb (j + 1) (by simpa using hj) (by omega))
  refine go o.names o.fields o.must m h1 h2 h3 hs (fun j hj hjm e => ?_)
  have h := rise_ltB hr m h1 j hjm
  rw [e, hs] at h
  exact List.lt_irrefl _ h
theorem fld_no {o : OB} {s : ByteArray} (h : hasK o.names s = false) : (fldO o s).1 = o.rest := by
  have go : ∀ (ns : List ByteArray) (fs : List TT) (ms : List Bool), hasK ns s = false → (fldL ns fs ms o.rest s).1 = o.rest := by
    intro ns
    induction ns with
    | nil => intro fs ms _; simp [fldL]
    | cons n ns ih =>
      intro fs ms hh
      cases fs with
      | nil => simp [fldL]
      | cons f fs =>
        cases ms with
        | nil => simp [fldL]
        | cons mm ms =>
          unfold hasK at hh
          rw [List.any_cons, Bool.or_eq_false_iff] at hh
          rw [fldL, if_neg (by rw [hh.1]; simp)]
          exact ih fs ms hh.2
  exact go _ _ _ h

set_option maxRecDepth 100000 in
set_option maxHeartbeats 6400000 in
theorem w_mHas (kd : Int) (nm tx : ByteArray) (io : Option Addr) (NI icap : Nat) (vo : Option Addr) (NK vcap : Nat) (ks : List ByteArray) (s : ByteArray) (w : World) (hk : KIn w vo ks) (hN : ks.length = NK) (hc : NK ≤ vcap) (hN2 : NK ≤ 140737488355328) (hr : rK ks ks.length = true) :
    Calls Tryz.prog 92 #[.agg #[.int .i64 kd, .string nm, .string tx, .slice io NI icap, .slice vo NK vcap], .string s] w fun e w' => e = .returned (.bool (hasK ks s)) ∧ Below w.heap.size w w' := by
  have HC := Hid.mk (fun u (hu : Below w.heap.size w u) => w_BinS vo NK vcap ks s u (hk.keep hu) hN hc hN2 hr)
  generalize hasK ks s = q at *
  clear hk hN hr
  have HX := Hid.mk (bx1_new w #[.int .i64 kd, .string nm, .string tx, .slice io NI icap, .slice vo NK vcap] 37)
  obtain ⟨W0, hW0⟩ : ∃ W0, w.alloc (.cells #[.int .i64 kd, .string nm, .string tx, .slice io NI icap, .slice vo NK vcap] 37) = W0 := ⟨_, rfl⟩
  rw [hW0] at HX
  have p4 : W0.cell? ⟨w.heap.size, 4, none⟩ = some (.slice vo NK vcap) := HX.out.one 4
  go_enter Tryz.func92, Tryz.ntmps92
  go_wp2_with fail
  refine (HC.out _ HX.out.below).mono ?_
  rintro e v1 ⟨⟨m, rfl⟩, rfl⟩
  go_wp2_with fail
  go_ret
  exact ⟨rfl, HX.out.below⟩

set_option maxRecDepth 100000 in
set_option maxHeartbeats 6400000 in
theorem w_fieldOf (h : Nat) (o : OB) (s : ByteArray) (N : Nat) (ko : Option Addr) (kc : Nat) (fo : Option Addr) (fc : Nat) (mo : Option Addr) (mc : Nat) (sa sb sc sd : Bool) (seo : Option Addr) (sen sec : Nat) (sf : Bool) (sgo : Option Addr) (sgn sgc : Nat) (sio : Option Addr) (sinn sic : Nat) (sjo : Option Addr) (sjn sjc : Nat) (w0 : World) (hO : InO w0 h o ko kc fo fc mo mc (.bool sa) (.bool sb) (.bool sc) (.bool sd) (.slice seo sen sec) (.bool sf) (.slice sgo sgn sgc) (.slice sio sinn sic) (.slice sjo sjn sjc)) (hN : o.names.length = N) (hf : o.fields.length = N) (hm : o.must.length = N) (hr : rK o.names o.names.length = true) :
    ∃ vt, InT w0 h (fldO o s).1 vt ∧ ∀ w, Below w0.heap.size w0 w → Calls Tryz.prog 94 #[.agg #[.slice ko N kc, .slice fo N fc, .slice mo N mc, .bool sa, .bool sb, .bool sc, .bool sd, .slice seo sen sec, .bool sf, .slice sgo sgn sgc, .slice sio sinn sic, .slice sjo sjn sjc], .string s] w fun e w' => e = .returned vt ∧ Below w.heap.size w w' := by
  obtain ⟨m, hm0, hbin⟩ := w_BinX o.names s hr
  have hcaps := hO.caps
  have hl := hO.lens.1
  rw [hN, hf, hm] at hcaps
  rw [hN] at hl
  obtain ⟨k1, k2, k3⟩ := hcaps
  cases hq : hasK o.names s with
  | true =>
    obtain ⟨hml, hms⟩ := hm0 hq
    have q2 : m < o.fields.length := by omega
    have q3 : m < o.must.length := by omega
    have hmN : m < N := by omega
    obtain ⟨fb, foff, hfo, hfl, hfrow⟩ := hO.fd (by omega)
    subst hfo
    obtain ⟨d0, d1, d2, d3, d4, d5, d6, d7, d8, hd9, hdT⟩ := hfrow m q2
    obtain ⟨za, zb, zc, zd, ⟨zeo, zen, zec⟩, zf, ⟨zgo, zgn, zgc⟩, ⟨zio, zinn, zic⟩, ⟨zjo, zjn, zjc⟩, eshz⟩ := inT_shape hdT
    simp only [Value.agg.injEq, Array.mk.injEq, List.cons.injEq, and_true] at eshz
    obtain ⟨rfl, rfl, rfl, rfl, rfl, rfl, rfl, rfl, rfl⟩ := eshz
    refine ⟨_, by rw [fld_at hml q2 q3 hr hms]; exact hdT, fun w hb => ?_⟩
    have HC := Hid.mk (fun u (hu : Below w.heap.size w u) => hbin ko N kc u (hO.nm.keep (hb.trans (hu.mono hb.size))) hN k1 hl)
    rw [hq] at HC
    have hX := bx2_two w #[.slice ko N kc, .slice (some ⟨fb, foff, none⟩) N fc, .slice mo N mc, .bool sa, .bool sb, .bool sc, .bool sd, .slice seo sen sec, .bool sf, .slice sgo sgn sgc, .slice sio sinn sic, .slice sjo sjn sjc] #[.bool false, .bool false, .bool false, .bool false, .slice none 0 0, .bool false, .slice none 0 0, .slice none 0 0, .slice none 0 0] 60 29
    obtain ⟨W0, hW0⟩ : ∃ W0, (w.alloc (.cells #[.slice ko N kc, .slice (some ⟨fb, foff, none⟩) N fc, .slice mo N mc, .bool sa, .bool sb, .bool sc, .bool sd, .slice seo sen sec, .bool sf, .slice sgo sgn sgc, .slice sio sinn sic, .slice sjo sjn sjc] 60)).alloc (.cells #[.bool false, .bool false, .bool false, .bool false, .slice none 0 0, .bool false, .slice none 0 0, .slice none 0 0, .slice none 0 0] 29) = W0 := ⟨_, rfl⟩
    have hRA : W0.heap[w.heap.size + 1]? = some (.cells #[.bool false, .bool false, .bool false, .bool false, .slice none 0 0, .bool false, .slice none 0 0, .slice none 0 0, .slice none 0 0] 29 (0, 0)) := by
      have h := World.alloc_heap_new (w.alloc (.cells #[.slice ko N kc, .slice (some ⟨fb, foff, none⟩) N fc, .slice mo N mc, .bool sa, .bool sb, .bool sc, .bool sd, .slice seo sen sec, .bool sf, .slice sgo sgn sgc, .slice sio sinn sic, .slice sjo sjn sjc] 60)) (.cells #[.bool false, .bool false, .bool false, .bool false, .slice none 0 0, .bool false, .slice none 0 0, .slice none 0 0, .slice none 0 0] 29)
      rw [World.size_alloc] at h
      rw [← hW0]; exact h
    rw [hW0] at hX
    have HX := Hid.mk hX
    have HRA := Hid.mk hRA
    have p0 : W0.cell? ⟨w.heap.size, 0, none⟩ = some (.slice ko N kc) := hX.one 0
    have p1 : W0.cell? ⟨w.heap.size, 1, none⟩ = some (.slice (some ⟨fb, foff, none⟩) N fc) := hX.one 1
    obtain ⟨r0, r1, r2, r3, r4, r5, r6, r7, r8⟩ := (hd9.keep (hb.trans (hX.below.mono hb.size)) hfl)
    have hl1 : (m : Int) < (N : Int) := by omega
    have hl0 : (0 : Int) ≤ (m : Int) := by omega
    have hln : ¬ (N : Int) ≤ (m : Int) := by omega
    clear hm0 hbin hml hms q2 q3 hfrow hd9 hdT hO hN hf hm hr hq hX hRA
    go_enter Tryz.func94, Tryz.ntmps94
    go_wp2_with fail
    refine (HC.out _ HX.out.below).mono ?_
    rintro e v1 ⟨rfl, rfl⟩
    have g0 := cell_of_row _ _ 0 _ _ _ HRA.out
    have ff0 := frozen5i (j := 0) HRA.out
    have g1 := cell_of_row _ _ 1 _ _ _ HRA.out
    have ff1 := frozen5i (j := 1) HRA.out
    have g2 := cell_of_row _ _ 2 _ _ _ HRA.out
    have ff2 := frozen5i (j := 2) HRA.out
    have g3 := cell_of_row _ _ 3 _ _ _ HRA.out
    have ff3 := frozen5i (j := 3) HRA.out
    have g4 := cell_of_row _ _ 4 _ _ _ HRA.out
    have ff4 := frozen5i (j := 4) HRA.out
    have g5 := cell_of_row _ _ 5 _ _ _ HRA.out
    have ff5 := frozen5i (j := 5) HRA.out
    have g6 := cell_of_row _ _ 6 _ _ _ HRA.out
    have ff6 := frozen5i (j := 6) HRA.out
    have g7 := cell_of_row _ _ 7 _ _ _ HRA.out
    have ff7 := frozen5i (j := 7) HRA.out
    have g8 := cell_of_row _ _ 8 _ _ _ HRA.out
    have ff8 := frozen5i (j := 8) HRA.out
    go_wp2_with fail
    (try simp only [Exit.inBlock, Exit.then])
    generalize hz9 : ((((((((v1.setCell ⟨w.heap.size + 1, 0, none⟩ (.bool za)).setCell ⟨w.heap.size + 1, 1, none⟩ (.bool zb)).setCell ⟨w.heap.size + 1, 2, none⟩ (.bool zc)).setCell ⟨w.heap.size + 1, 3, none⟩ (.bool zd)).setCell ⟨w.heap.size + 1, 4, none⟩ (.slice zeo zen zec)).setCell ⟨w.heap.size + 1, 5, none⟩ (.bool zf)).setCell ⟨w.heap.size + 1, 6, none⟩ (.slice zgo zgn zgc)).setCell ⟨w.heap.size + 1, 7, none⟩ (.slice zio zinn zic)).setCell ⟨w.heap.size + 1, 8, none⟩ (.slice zjo zjn zjc) = wz
    have e7 := box9_row2 HRA.out wz hz9.symm
    have hbz : Below w.heap.size w wz := by rw [← hz9]; exact (((((((((HX.out.below.setCell (p := ⟨w.heap.size + 1, 0, none⟩) (by show w.heap.size ≤ w.heap.size + 1; omega) _).setCell (p := ⟨w.heap.size + 1, 1, none⟩) (by show w.heap.size ≤ w.heap.size + 1; omega) _).setCell (p := ⟨w.heap.size + 1, 2, none⟩) (by show w.heap.size ≤ w.heap.size + 1; omega) _).setCell (p := ⟨w.heap.size + 1, 3, none⟩) (by show w.heap.size ≤ w.heap.size + 1; omega) _).setCell (p := ⟨w.heap.size + 1, 4, none⟩) (by show w.heap.size ≤ w.heap.size + 1; omega) _).setCell (p := ⟨w.heap.size + 1, 5, none⟩) (by show w.heap.size ≤ w.heap.size + 1; omega) _).setCell (p := ⟨w.heap.size + 1, 6, none⟩) (by show w.heap.size ≤ w.heap.size + 1; omega) _).setCell (p := ⟨w.heap.size + 1, 7, none⟩) (by show w.heap.size ≤ w.heap.size + 1; omega) _).setCell (p := ⟨w.heap.size + 1, 8, none⟩) (by show w.heap.size ≤ w.heap.size + 1; omega) _)
    have d0 := cell_of_row _ _ 0 _ _ _ e7
    have d1 := cell_of_row _ _ 1 _ _ _ e7
    have d2 := cell_of_row _ _ 2 _ _ _ e7
    have d3 := cell_of_row _ _ 3 _ _ _ e7
    have d4 := cell_of_row _ _ 4 _ _ _ e7
    have d5 := cell_of_row _ _ 5 _ _ _ e7
    have d6 := cell_of_row _ _ 6 _ _ _ e7
    have d7 := cell_of_row _ _ 7 _ _ _ e7
    have d8 := cell_of_row _ _ 8 _ _ _ e7
    refine bodyPost_ret (v := .agg #[.bool za, .bool zb, .bool zc, .bool zd, .slice zeo zen zec, .bool zf, .slice zgo zgn zgc, .slice zio zinn zic, .slice zjo zjn zjc]) (by simp [results, Tryz.results94, go_sem, d0, d1, d2, d3, d4, d5, d6, d7, d8]) rfl ?_
    exact ⟨rfl, hbz⟩
  | false =>
    refine ⟨_, by rw [fld_no hq]; exact hO.rest, fun w hb => ?_⟩
    have HC := Hid.mk (fun u (hu : Below w.heap.size w u) => hbin ko N kc u (hO.nm.keep (hb.trans (hu.mono hb.size))) hN k1 hl)
    rw [hq] at HC
    have hX := bx2_two w #[.slice ko N kc, .slice fo N fc, .slice mo N mc, .bool sa, .bool sb, .bool sc, .bool sd, .slice seo sen sec, .bool sf, .slice sgo sgn sgc, .slice sio sinn sic, .slice sjo sjn sjc] #[.bool false, .bool false, .bool false, .bool false, .slice none 0 0, .bool false, .slice none 0 0, .slice none 0 0, .slice none 0 0] 60 29
    obtain ⟨W0, hW0⟩ : ∃ W0, (w.alloc (.cells #[.slice ko N kc, .slice fo N fc, .slice mo N mc, .bool sa, .bool sb, .bool sc, .bool sd, .slice seo sen sec, .bool sf, .slice sgo sgn sgc, .slice sio sinn sic, .slice sjo sjn sjc] 60)).alloc (.cells #[.bool false, .bool false, .bool false, .bool false, .slice none 0 0, .bool false, .slice none 0 0, .slice none 0 0, .slice none 0 0] 29) = W0 := ⟨_, rfl⟩
    have hRA : W0.heap[w.heap.size + 1]? = some (.cells #[.bool false, .bool false, .bool false, .bool false, .slice none 0 0, .bool false, .slice none 0 0, .slice none 0 0, .slice none 0 0] 29 (0, 0)) := by
      have h := World.alloc_heap_new (w.alloc (.cells #[.slice ko N kc, .slice fo N fc, .slice mo N mc, .bool sa, .bool sb, .bool sc, .bool sd, .slice seo sen sec, .bool sf, .slice sgo sgn sgc, .slice sio sinn sic, .slice sjo sjn sjc] 60)) (.cells #[.bool false, .bool false, .bool false, .bool false, .slice none 0 0, .bool false, .slice none 0 0, .slice none 0 0, .slice none 0 0] 29)
      rw [World.size_alloc] at h
      rw [← hW0]; exact h
    rw [hW0] at hX
    have HX := Hid.mk hX
    have HRA := Hid.mk hRA
    have p0 : W0.cell? ⟨w.heap.size, 0, none⟩ = some (.slice ko N kc) := hX.one 0
    have r0 : W0.cell? ⟨w.heap.size, 3, none⟩ = some (.bool sa) := hX.one 3
    have r1 : W0.cell? ⟨w.heap.size, 4, none⟩ = some (.bool sb) := hX.one 4
    have r2 : W0.cell? ⟨w.heap.size, 5, none⟩ = some (.bool sc) := hX.one 5
    have r3 : W0.cell? ⟨w.heap.size, 6, none⟩ = some (.bool sd) := hX.one 6
    have r4 : W0.cell? ⟨w.heap.size, 7, none⟩ = some (.slice seo sen sec) := hX.one 7
    have r5 : W0.cell? ⟨w.heap.size, 8, none⟩ = some (.bool sf) := hX.one 8
    have r6 : W0.cell? ⟨w.heap.size, 9, none⟩ = some (.slice sgo sgn sgc) := hX.one 9
    have r7 : W0.cell? ⟨w.heap.size, 10, none⟩ = some (.slice sio sinn sic) := hX.one 10
    have r8 : W0.cell? ⟨w.heap.size, 11, none⟩ = some (.slice sjo sjn sjc) := hX.one 11
    clear hm0 hbin hO hN hf hm hr hq hX hRA
    go_enter Tryz.func94, Tryz.ntmps94
    go_wp2_with fail
    refine (HC.out _ HX.out.below).mono ?_
    rintro e v1 ⟨rfl, rfl⟩
    have g0 := cell_of_row _ _ 0 _ _ _ HRA.out
    have ff0 := frozen5i (j := 0) HRA.out
    have g1 := cell_of_row _ _ 1 _ _ _ HRA.out
    have ff1 := frozen5i (j := 1) HRA.out
    have g2 := cell_of_row _ _ 2 _ _ _ HRA.out
    have ff2 := frozen5i (j := 2) HRA.out
    have g3 := cell_of_row _ _ 3 _ _ _ HRA.out
    have ff3 := frozen5i (j := 3) HRA.out
    have g4 := cell_of_row _ _ 4 _ _ _ HRA.out
    have ff4 := frozen5i (j := 4) HRA.out
    have g5 := cell_of_row _ _ 5 _ _ _ HRA.out
    have ff5 := frozen5i (j := 5) HRA.out
    have g6 := cell_of_row _ _ 6 _ _ _ HRA.out
    have ff6 := frozen5i (j := 6) HRA.out
    have g7 := cell_of_row _ _ 7 _ _ _ HRA.out
    have ff7 := frozen5i (j := 7) HRA.out
    have g8 := cell_of_row _ _ 8 _ _ _ HRA.out
    have ff8 := frozen5i (j := 8) HRA.out
    go_wp2_with fail
    (try simp only [Exit.inBlock, Exit.then])
    generalize hz9 : ((((((((v1.setCell ⟨w.heap.size + 1, 0, none⟩ (.bool sa)).setCell ⟨w.heap.size + 1, 1, none⟩ (.bool sb)).setCell ⟨w.heap.size + 1, 2, none⟩ (.bool sc)).setCell ⟨w.heap.size + 1, 3, none⟩ (.bool sd)).setCell ⟨w.heap.size + 1, 4, none⟩ (.slice seo sen sec)).setCell ⟨w.heap.size + 1, 5, none⟩ (.bool sf)).setCell ⟨w.heap.size + 1, 6, none⟩ (.slice sgo sgn sgc)).setCell ⟨w.heap.size + 1, 7, none⟩ (.slice sio sinn sic)).setCell ⟨w.heap.size + 1, 8, none⟩ (.slice sjo sjn sjc) = wz
    have e7 := box9_row2 HRA.out wz hz9.symm
    have hbz : Below w.heap.size w wz := by rw [← hz9]; exact (((((((((HX.out.below.setCell (p := ⟨w.heap.size + 1, 0, none⟩) (by show w.heap.size ≤ w.heap.size + 1; omega) _).setCell (p := ⟨w.heap.size + 1, 1, none⟩) (by show w.heap.size ≤ w.heap.size + 1; omega) _).setCell (p := ⟨w.heap.size + 1, 2, none⟩) (by show w.heap.size ≤ w.heap.size + 1; omega) _).setCell (p := ⟨w.heap.size + 1, 3, none⟩) (by show w.heap.size ≤ w.heap.size + 1; omega) _).setCell (p := ⟨w.heap.size + 1, 4, none⟩) (by show w.heap.size ≤ w.heap.size + 1; omega) _).setCell (p := ⟨w.heap.size + 1, 5, none⟩) (by show w.heap.size ≤ w.heap.size + 1; omega) _).setCell (p := ⟨w.heap.size + 1, 6, none⟩) (by show w.heap.size ≤ w.heap.size + 1; omega) _).setCell (p := ⟨w.heap.size + 1, 7, none⟩) (by show w.heap.size ≤ w.heap.size + 1; omega) _).setCell (p := ⟨w.heap.size + 1, 8, none⟩) (by show w.heap.size ≤ w.heap.size + 1; omega) _)
    have d0 := cell_of_row _ _ 0 _ _ _ e7
    have d1 := cell_of_row _ _ 1 _ _ _ e7
    have d2 := cell_of_row _ _ 2 _ _ _ e7
    have d3 := cell_of_row _ _ 3 _ _ _ e7
    have d4 := cell_of_row _ _ 4 _ _ _ e7
    have d5 := cell_of_row _ _ 5 _ _ _ e7
    have d6 := cell_of_row _ _ 6 _ _ _ e7
    have d7 := cell_of_row _ _ 7 _ _ _ e7
    have d8 := cell_of_row _ _ 8 _ _ _ e7
    refine bodyPost_ret (v := .agg #[.bool sa, .bool sb, .bool sc, .bool sd, .slice seo sen sec, .bool sf, .slice sgo sgn sgc, .slice sio sinn sic, .slice sjo sjn sjc]) (by simp [results, Tryz.results94, go_sem, d0, d1, d2, d3, d4, d5, d6, d7, d8]) rfl ?_
    exact ⟨rfl, hbz⟩
end Go.Proofs.YtapjfocjeligiaaGreatDoor
