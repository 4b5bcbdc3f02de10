import Derived.Test.YtbaknnpjbokilaaM44
import Derived.Test.YtbaknnpjbokilaaM45
namespace Go.Proofs.Ytbaknnpjbokilaa
open Go.RowKit Go.Maps Go.Sort Go.Shelf
set_option linter.unusedVariables false
set_option linter.unusedSimpArgs false
attribute [local go_sem] Oper.semAt_some

set_option maxRecDepth 100000 in
set_option maxHeartbeats 6400000 in
/-- Without of a well shaped object -/
theorem w_Without_ok (h n : Nat) (T : VT) (s : SmO h n T) (hn : n ≤ 100000) (v : Value) (key : ByteArray) (w : World) (hI : InH w (h + 1) T v) :
    Calls Try.prog 11 #[v, .string key] w fun e w' => ∃ (yk : Int) (yn yt : ByteArray) (yio : Option Addr) (yN yic : Nat) (yko : Option Addr) (yK ykc : Nat), e = .returned (.tuple #[.agg #[.int .i64 yk, .string yn, .string yt, .slice yio yN yic, .slice yko yK ykc], .int .i64 0]) ∧ Hid (InH w' (h + 1) (woT T key) (.agg #[.int .i64 yk, .string yn, .string yt, .slice yio yN yic, .slice yko yK ykc]) ∧ Below w.heap.size w w') := by
  have HIO : Hid (∀ u, Below w.heap.size w u → Calls Try.prog 21 #[v] u fun e w' => e = .returned (.bool true) ∧ Below u.heap.size u w') := fun u hu => by
    have := w_isObject6 h T v u (hI.keep hu) s.kind
    rw [s.form] at this; exact this
  have hkl := s.keys
  have kA := s.obj.len
  obtain ⟨io, ic, ko, kc, rfl, p1, p2, p3, p4, p5, p6, p7, hk, hi⟩ := hI.open
  rw [← kA] at p5
  have kA' : T.items.length = T.keys.length := kA.symm
  rw [kA'] at HIO ⊢
  have HG : Hid (∀ u w4, Below w.heap.size w u → w4 = (u.alloc (.cells #[.int .i64 T.kind, .string T.num, .string T.text, .slice io T.keys.length ic, .slice ko T.keys.length kc] 25)).alloc (.cells #[.string key] 9) → Calls Try.prog 22 #[.func (.func 32) #[] #[.pointer (some ⟨u.heap.size, 0, none⟩), .pointer (some ⟨u.heap.size + 1, 0, none⟩)]] w4 fun e w' => ∃ (M : Nat) (io : Option Addr) (ic : Nat) (ko : Option Addr) (kc : Nat), e = .returned (.agg #[.int .i64 6, .string ⟨#[]⟩, .string ⟨#[]⟩, .slice io M ic, .slice ko M kc]) ∧ Hid (InH w' (h + 1) (woT T key) (.agg #[.int .i64 6, .string ⟨#[]⟩, .string ⟨#[]⟩, .slice io M ic, .slice ko M kc])) ∧ Hid (Below w4.heap.size w4 w')) := fun u w4 hu hw4 =>
    gathered_others h T s.obj T.kind T.num T.text io ic ko kc key u w4 (hk.keep hu) (hi.keep hu) ⟨p5, p6⟩ (by omega) p7 hw4
  have HT : Hid (∀ u v, InH u (h + 1) (woT T key) v → Calls Try.prog 20 #[v] u fun e w' => ∃ v', e = .returned v' ∧ InF u.heap.size w' (h + 1) (woT T key) v' ∧ Below u.heap.size u w') := fun u v hv => w_Twin (h + 1) _ _ u hv (Nat.le_trans (woT_sm s key).sz (by omega))
  generalize woT T key = MT at HG HT ⊢
  generalize T.kind = tk at *
  generalize T.num = tn at *
  generalize T.text = tt at *
  generalize T.keys.length = K at *
  clear hI s kA kA' p1 p2 p3 p4 p5 p6 p7 hk hi hkl hn
  go_enter Try.func11, Try.ntmps11
  go_upto_region 1 with fail
  obtain ⟨W2, hW2⟩ : ∃ W2, (w.alloc (.cells #[.int .i64 tk, .string tn, .string tt, .slice io K ic, .slice ko K kc] 25)).alloc (.cells #[.int .i64 0, .string ⟨#[]⟩, .string ⟨#[]⟩, .slice none 0 0, .slice none 0 0] 25) = W2 := ⟨_, rfl⟩
  have HB0 : Hid (Below w.heap.size w W2) := by rw [← hW2]; exact below2 w _ _
  have HX0 : Hid (W2.heap[w.heap.size]? = some (.cells #[.int .i64 tk, .string tn, .string tt, .slice io K ic, .slice ko K kc] 25 (0, 0))) := by show _ = _; rw [← hW2]; exact (Below.heap_alloc _ _ _ (by simp)).trans (heap_alloc_new w _)
  have HZ0 : Hid (W2.heap[w.heap.size + 1]? = some (.cells #[.int .i64 0, .string ⟨#[]⟩, .string ⟨#[]⟩, .slice none 0 0, .slice none 0 0] 25 (0, 0))) := by
    show _ = _
    rw [← hW2]
    have := heap_alloc_new (w.alloc (.cells #[.int .i64 tk, .string tn, .string tt, .slice io K ic, .slice ko K kc] 25)) (.cells #[.int .i64 0, .string ⟨#[]⟩, .string ⟨#[]⟩, .slice none 0 0, .slice none 0 0] 25)
    rwa [World.size_alloc] at this
  rw [hW2]
  clear hW2
  have c0 := cell_of_row _ _ 0 _ _ _ HX0.out
  have c1 := cell_of_row _ _ 1 _ _ _ HX0.out
  have c2 := cell_of_row _ _ 2 _ _ _ HX0.out
  have c3 := cell_of_row _ _ 3 _ _ _ HX0.out
  have c4 := cell_of_row _ _ 4 _ _ _ HX0.out
  go_wp2_with fail
  refine (HIO.out _ HB0.out).mono ?_
  rintro e w3 ⟨rfl, hb⟩
  have HB3 := Hid.mk (below_more HB0.out hb)
  have HX3 := Hid.mk (heap_low hb (Array.getElem?_eq_some_iff.1 HX0.out).1 HX0.out)
  have HZ3 := Hid.mk (heap_low hb (Array.getElem?_eq_some_iff.1 HZ0.out).1 HZ0.out)
  clear hb HB0 HX0 HZ0 HIO
  clear c0 c1 c2 c3 c4
  have c0 := cell_of_row _ _ 0 _ _ _ HX3.out
  have c1 := cell_of_row _ _ 1 _ _ _ HX3.out
  have c2 := cell_of_row _ _ 2 _ _ _ HX3.out
  have c3 := cell_of_row _ _ 3 _ _ _ HX3.out
  have c4 := cell_of_row _ _ 4 _ _ _ HX3.out
  go_wp2_with fail
  refine (w_others _ _ _ _ _ _ _ _ _ _ _).mono ?_
  rintro e w4 ⟨rfl, hw4⟩
  have hb4 : Below w3.heap.size w3 w4 := by rw [hw4]; exact below2 w3 _ _
  have HB4 := Hid.mk (below_more HB3.out hb4)
  have HZ4 := Hid.mk (heap_low hb4 (Array.getElem?_eq_some_iff.1 HZ3.out).1 HZ3.out)
  have HC := Hid.mk (HG.out w3 w4 HB3.out hw4)
  clear hb4 hw4 HB3 HX3 HZ3 HG
  clear c0 c1 c2 c3 c4
  go_wp2_with fail
  refine HC.out.mono ?_
  rintro e w5 ⟨M, gio, gic, gko, gkc, rfl, HI5, HB5'⟩
  have HB5 := Hid.mk (below_more HB4.out HB5'.out)
  have HZ5 := Hid.mk (heap_low HB5'.out (Array.getElem?_eq_some_iff.1 HZ4.out).1 HZ4.out)
  go_wp2_with fail
  refine (HT.out w5 _ HI5.out).mono ?_
  rintro e w6 ⟨v', rfl, hF6, hb6⟩
  have HB6 := Hid.mk (below_more HB5.out hb6)
  have hZ6 := heap_low hb6 (Array.getElem?_eq_some_iff.1 HZ5.out).1 HZ5.out
  obtain ⟨yk, yn, yt, yio, yN, yic, yko, yK, ykc, rfl⟩ := hF6.shape
  have HF6 := Hid.mk hF6
  have hlt5 := (Array.getElem?_eq_some_iff.1 HZ5.out).1
  have HR9 := Hid.mk hZ6
  have hltR := (Array.getElem?_eq_some_iff.1 HR9.out).1
  have r0 := cell_of_row _ _ 0 _ _ _ HR9.out
  have r1 := cell_of_row _ _ 1 _ _ _ HR9.out
  have r2 := cell_of_row _ _ 2 _ _ _ HR9.out
  have r3 := cell_of_row _ _ 3 _ _ _ HR9.out
  have r4 := cell_of_row _ _ 4 _ _ _ HR9.out
  have fr : ∀ j, w6.frozen? ⟨w.heap.size + 1, j, none⟩ = false := fun j => frozen_row HR9.out
  obtain ⟨wz, hwz⟩ : ∃ wz, ((((w6.setCell ⟨w.heap.size + 1, 0, none⟩ (.int .i64 yk)).setCell ⟨w.heap.size + 1, 1, none⟩ (.string yn)).setCell ⟨w.heap.size + 1, 2, none⟩ (.string yt)).setCell ⟨w.heap.size + 1, 3, none⟩ (.slice yio yN yic)).setCell ⟨w.heap.size + 1, 4, none⟩ (.slice yko yK ykc) = wz := ⟨_, rfl⟩
  obtain ⟨zb, zo, zs', zbl⟩ := set5 w6 (w.heap.size + 1) _ _ _ _ _ _ _ _ _ _ _ HR9.out wz hwz.symm
  have z0 := cell_of_row _ _ 0 _ _ _ zb
  have z1 := cell_of_row _ _ 1 _ _ _ zb
  have z2 := cell_of_row _ _ 2 _ _ _ zb
  have z3 := cell_of_row _ _ 3 _ _ _ zb
  have z4 := cell_of_row _ _ 4 _ _ _ zb
  have FIN : Hid (InH wz (h + 1) MT (.agg #[.int .i64 yk, .string yn, .string yt, .slice yio yN yic, .slice yko yK ykc]) ∧ Below w.heap.size w wz) := ⟨(InF.keepB (lo' := w5.heap.size) (by rw [zs']; exact Nat.le_refl _) (fun b hb hl => zo b (by omega)) (Nat.le_refl _) HF6.out).toH, HB6.out.trans (zbl _ (by omega))⟩
  clear zb zo zbl hF6 hb6 HT HC HI5 HB5' zs' hZ6
  go_wp2_with fail
  (try simp only [Exit.inBlock, Exit.then])
  refine bodyPost_ret (v := .tuple #[.agg #[.int .i64 yk, .string yn, .string yt, .slice yio yN yic, .slice yko yK ykc], .int .i64 0]) (by simp [results, Try.results11, go_sem, z0, z1, z2, z3, z4]) rfl ?_
  exact ⟨yk, yn, yt, yio, yN, yic, yko, yK, ykc, rfl, FIN⟩
end Go.Proofs.Ytbaknnpjbokilaa
namespace Go.Proofs.Ytbaknnpjbokilaa
open Go.RowKit Go.Maps Go.Sort Go.Shelf
set_option linter.unusedVariables false
set_option linter.unusedSimpArgs false
attribute [local go_sem] Oper.semAt_some

/-- where a key stands -/
def IxR (keys : List ByteArray) (key : ByteArray) (r : Int) : Prop := (r = -1 ∧ key ∉ keys) ∨ ∃ k : Nat, r = (k : Int) ∧ k < keys.length ∧ keys.getD k .empty = key
set_option maxRecDepth 100000 in
set_option maxHeartbeats 3200000 in
theorem w_IndexS (ko : Option Addr) (K kc : Nat) (keys : List ByteArray) (key : ByteArray) (w : World) (hk : KIn w ko keys) (hK : keys.length = K) (hc : K ≤ kc) (hK2 : K ≤ 140737488355328) :
    Calls Try.prog 19 #[.slice ko K kc, .string key] w fun e w' => ∃ r : Int, e = .returned (.int .i64 r) ∧ Hid (IxR keys key r) ∧ Hid (Below w.heap.size w w') := by
  have HK := Hid.mk hk
  have HL := Hid.mk hK
  have HB0 : Hid (Below w.heap.size w w) := Below.refl _ _
  clear hk hK
  go_enter Try.func19, Try.ntmps19
  go_wp2_with fail
  go_loopw [8] (fun i wr => ∃ (k : Nat), k ≤ K ∧ i = .int .i64 (k : Int) ∧ Hid (Below w.heap.size w wr) ∧ Hid (∀ j, j < k → keys.getD j .empty ≠ key)) (fun i _ => K - (intOf i).toNat)
  case atStart => exact ⟨0, Nat.zero_le _, rfl, HB0, fun j hj => by omega⟩
  case round =>
    clear HB0
    obtain ⟨k, hk, rfl, HB, HN⟩ := hrel
    by_cases hlt : k < K
    · have hl1 : (k : Int) < (K : Int) := by omega
      have hl0 : (0 : Int) ≤ (k : Int) := by omega
      have hkl : k < keys.length := by rw [HL.out]; exact hlt
      obtain ⟨kb, koff, hko, hkbl, hkr⟩ := ((HK.out).keep HB.out).row (by omega)
      subst hko
      have ck := hkr k hkl
      have HNk : Hid (∀ z, keys.getD k .empty = z → ¬ key = z → ∀ j, j < k + 1 → keys.getD j .empty ≠ key) := fun z e hz j hj => by
        rcases Nat.lt_or_ge j k with h1 | h1
        · exact HN.out j h1
        · obtain rfl : j = k := by omega
          rw [e]; exact fun h => hz h.symm
      have HYk : Hid (∀ z, keys.getD k .empty = z → key = z → IxR keys key (k : Int)) := fun z e hz => .inr ⟨k, rfl, hkl, by rw [e, hz]⟩
      obtain ⟨z, hz⟩ : ∃ z, keys.getD k .empty = z := ⟨_, rfl⟩
      rw [hz] at ck
      have HZ := Hid.mk hz
      clear hkr hkl hz
      cases e : (key.toList == z.toList) with
      | true =>
        have HF := Hid.mk (HYk.out z HZ.out (beq_yes e))
        clear HNk HYk
        go_wp2_with fail
        go_ret
        exact ⟨_, rfl, HF, HB⟩
      | false =>
        have HF := Hid.mk (HNk.out z HZ.out (beq_no e))
        clear HNk HYk
        go_wp2_with fail
        go_roundw
        case rel => exact ⟨k + 1, hlt, by go_num, HB, HF⟩
        case measure => simp [intOf]; omega
    · have hl1 : ¬ (k : Int) < (K : Int) := by omega
      have HF : Hid (IxR keys key (-1)) := .inl ⟨rfl, fun hm => by
        obtain ⟨i, hi, e⟩ := List.getElem_of_mem hm
        have h1 := HL.out
        exact HN.out i (by omega) (by rw [getD_key hi]; exact e)⟩
      clear HN
      go_wp2_with fail
      go_ret
      exact ⟨_, rfl, HF, HB⟩
set_option maxRecDepth 100000 in
set_option maxHeartbeats 6400000 in
theorem w_Get_there (h n : Nat) (T : VT) (s : SmO (h) n T) (hn : n ≤ 100000) (v : Value) (key : ByteArray) (t : VT) (hm : (key, t) ∈ flds T) (w : World) (hI : InH w (h + 1) T v) :
    Calls Try.prog 9 #[v, .string key] w fun e w' => ∃ (yk : Int) (yn yt : ByteArray) (yio : Option Addr) (yN yic : Nat) (yko : Option Addr) (yK ykc : Nat), e = .returned (.tuple #[.agg #[.int .i64 yk, .string yn, .string yt, .slice yio yN yic, .slice yko yK ykc], .bool true]) ∧ Hid (InH w' h t (.agg #[.int .i64 yk, .string yn, .string yt, .slice yio yN yic, .slice yko yK ykc]) ∧ Below w.heap.size w w') := by
  have hkl := s.keys
  have hit := s.item
  have hob := s.obj
  have h6 := s.kind
  have kA := s.obj.len
  obtain ⟨io, ic, ko, kc, rfl, p1, p2, p3, p4, p5, p6, p7, hk, hi⟩ := hI.open
  rw [← kA] at p5
  have kA' : T.items.length = T.keys.length := kA.symm
  rw [kA']
  have HIx : Hid (∀ u, Below w.heap.size w u → Calls Try.prog 19 #[.slice ko T.keys.length kc, .string key] u fun e w' => ∃ r : Int, e = .returned (.int .i64 r) ∧ Hid (IxR T.keys key r) ∧ Hid (Below u.heap.size u w')) := fun u hu => w_IndexS ko _ kc T.keys key u (hk.keep hu) rfl p6 (by omega)
  have HIT : Hid (∀ k : Nat, k < T.keys.length → T.keys.getD k .empty = key → ∀ u, Below w.heap.size w u → ∃ b off, io = some ⟨b, off, none⟩ ∧ b < u.heap.size ∧ ∃ (a0 : Int) (a1 a2 : ByteArray) (a3 : Option Addr) (a4 a5 : Nat) (a6 : Option Addr) (a7 a8 : Nat), u.cell? ⟨b, off + k * 5, none⟩ = some (.int .i64 a0) ∧ u.cell? ⟨b, off + k * 5 + 1, none⟩ = some (.string a1) ∧ u.cell? ⟨b, off + k * 5 + 2, none⟩ = some (.string a2) ∧ u.cell? ⟨b, off + k * 5 + 3, none⟩ = some (.slice a3 a4 a5) ∧ u.cell? ⟨b, off + k * 5 + 4, none⟩ = some (.slice a6 a7 a8) ∧ InH u h t (.agg #[.int .i64 a0, .string a1, .string a2, .slice a3 a4 a5, .slice a6 a7 a8])) := fun k hkk hke u hu => by
    have hil : k < T.items.length := by omega
    obtain ⟨b, off, e1, e2, hrow⟩ := (hi.keep hu).row (by omega)
    obtain ⟨v0, v1, v2, v3, v4, ⟨d0, d1, d2, d3, d4⟩, ht⟩ := hrow k hil
    have et : t = T.items[k] := by
      have h2 : (key, T.items.getD k (.mk 0 .empty .empty [] [])) ∈ flds T := (mem_flds hob.len).2 ⟨k, hkk, by rw [hke]⟩
      have h3 := flds_one hob hm h2
      rw [h3]; simp [List.getD, hil]
    obtain ⟨_, _, _, _, _, _, _, _, _, rfl, rfl, rfl, rfl, rfl⟩ := ht.shape
    rw [et]
    exact ⟨b, off, e1, e2, _, _, _, _, _, _, _, _, _, d0, d1, d2, d3, d4, ht⟩
  have HT : Hid (∀ u v, InH u h t v → Calls Try.prog 20 #[v] u fun e w' => ∃ v', e = .returned v' ∧ InF u.heap.size w' h t v' ∧ Below u.heap.size u w') := fun u v hv => w_Twin h _ _ u hv (by
    have h1 : t ∈ T.items := by
      have h2 : (key, t).2 ∈ (flds T).map (·.2) := List.mem_map.2 ⟨_, hm, rfl⟩
      rwa [flds_items hob.len] at h2
    have := hit t h1
    omega)
  have HNo : Hid (∀ r, IxR T.keys key r → ∃ k : Nat, r = (k : Int) ∧ k < T.keys.length ∧ T.keys.getD k .empty = key) := fun r hr => hr.elim (fun h => absurd ((mem_keys hob.len).2 ⟨t, hm⟩) h.2) id
  generalize T.keys = ks at *
  rw [h6]
  generalize T.num = tn at *
  generalize T.text = tt at *
  generalize ks.length = K at *
  clear hI s kA kA' p1 p2 p3 p4 p7 hk hi hit hob hm h6
  go_enter Try.func9, Try.ntmps9
  go_upto_region 1 with fail
  obtain ⟨W2, hW2⟩ : ∃ W2, (w.alloc (.cells #[.int .i64 6, .string tn, .string tt, .slice io K ic, .slice ko K kc] 25)).alloc (.cells #[.int .i64 0, .string ⟨#[]⟩, .string ⟨#[]⟩, .slice none 0 0, .slice none 0 0] 25) = W2 := ⟨_, rfl⟩
  have HB0 : Hid (Below w.heap.size w W2) := by rw [← hW2]; exact below2 w _ _
  have HX0 : Hid (W2.heap[w.heap.size]? = some (.cells #[.int .i64 6, .string tn, .string tt, .slice io K ic, .slice ko K kc] 25 (0, 0))) := by show _ = _; rw [← hW2]; exact (Below.heap_alloc _ _ _ (by simp)).trans (heap_alloc_new w _)
  have HZ0 : Hid (W2.heap[w.heap.size + 1]? = some (.cells #[.int .i64 0, .string ⟨#[]⟩, .string ⟨#[]⟩, .slice none 0 0, .slice none 0 0] 25 (0, 0))) := by
    show _ = _
    rw [← hW2]
    have := heap_alloc_new (w.alloc (.cells #[.int .i64 6, .string tn, .string tt, .slice io K ic, .slice ko K kc] 25)) (.cells #[.int .i64 0, .string ⟨#[]⟩, .string ⟨#[]⟩, .slice none 0 0, .slice none 0 0] 25)
    rwa [World.size_alloc] at this
  rw [hW2]
  clear hW2
  have c0 := cell_of_row _ _ 0 _ _ _ HX0.out
  have c1 := cell_of_row _ _ 1 _ _ _ HX0.out
  have c2 := cell_of_row _ _ 2 _ _ _ HX0.out
  have c3 := cell_of_row _ _ 3 _ _ _ HX0.out
  have c4 := cell_of_row _ _ 4 _ _ _ HX0.out
  go_wp2_with fail
  refine (HIx.out _ HB0.out).mono ?_
  rintro e w3 ⟨r, rfl, HR, HB⟩
  have HB3 := Hid.mk (below_more HB0.out HB.out)
  have HX3 := Hid.mk (heap_low HB.out (Array.getElem?_eq_some_iff.1 HX0.out).1 HX0.out)
  have hZ3 := heap_low HB.out (Array.getElem?_eq_some_iff.1 HZ0.out).1 HZ0.out
  clear c0 c1 c2 c3 c4
  have c0 := cell_of_row _ _ 0 _ _ _ HX3.out
  have c1 := cell_of_row _ _ 1 _ _ _ HX3.out
  have c2 := cell_of_row _ _ 2 _ _ _ HX3.out
  have c3 := cell_of_row _ _ 3 _ _ _ HX3.out
  have c4 := cell_of_row _ _ 4 _ _ _ HX3.out
  obtain ⟨k, rfl, hkk, hke⟩ := HNo.out r HR.out
  obtain ⟨b, off, rfl, hbl, a0, a1, a2, a3, a4, a5, a6, a7, a8, d0, d1, d2, d3, d4, hIt⟩ := HIT.out k hkk hke w3 HB3.out
  have HIt := Hid.mk hIt
  have HZ3 := Hid.mk hZ3
  have g1 : ¬ (k : Int) < 0 := by omega
  have g2 : ¬ (K : Int) ≤ (k : Int) := by omega
  have g3 : (0 : Int) ≤ (k : Int) := by omega
  have g4 : (k : Int) < (K : Int) := by omega
  clear HB0 HX0 HZ0 HIx HR HB hIt hke HNo HIT hZ3
  go_wp2_with fail
  refine (HT.out w3 _ HIt.out).mono ?_
  rintro e w6 ⟨v', rfl, hF6, hb6⟩
  have HB6 := Hid.mk (below_more HB3.out hb6)
  have hZ6 := heap_low hb6 (Array.getElem?_eq_some_iff.1 HZ3.out).1 HZ3.out
  obtain ⟨yk, yn, yt, yio, yN, yic, yko, yK, ykc, rfl⟩ := hF6.shape
  have HF6 := Hid.mk hF6
  have hlt5 := (Array.getElem?_eq_some_iff.1 HZ3.out).1
  clear c0 c1 c2 c3 c4 d0 d1 d2 d3 d4
  have HR9 := Hid.mk hZ6
  have hltR := (Array.getElem?_eq_some_iff.1 HR9.out).1
  have r0 := cell_of_row _ _ 0 _ _ _ HR9.out
  have r1 := cell_of_row _ _ 1 _ _ _ HR9.out
  have r2 := cell_of_row _ _ 2 _ _ _ HR9.out
  have r3 := cell_of_row _ _ 3 _ _ _ HR9.out
  have r4 := cell_of_row _ _ 4 _ _ _ HR9.out
  have fr : ∀ j, w6.frozen? ⟨w.heap.size + 1, j, none⟩ = false := fun j => frozen_row HR9.out
  obtain ⟨wz, hwz⟩ : ∃ wz, ((((w6.setCell ⟨w.heap.size + 1, 0, none⟩ (.int .i64 yk)).setCell ⟨w.heap.size + 1, 1, none⟩ (.string yn)).setCell ⟨w.heap.size + 1, 2, none⟩ (.string yt)).setCell ⟨w.heap.size + 1, 3, none⟩ (.slice yio yN yic)).setCell ⟨w.heap.size + 1, 4, none⟩ (.slice yko yK ykc) = wz := ⟨_, rfl⟩
  obtain ⟨zb, zo, zs', zbl⟩ := set5 w6 (w.heap.size + 1) _ _ _ _ _ _ _ _ _ _ _ HR9.out wz hwz.symm
  have z0 := cell_of_row _ _ 0 _ _ _ zb
  have z1 := cell_of_row _ _ 1 _ _ _ zb
  have z2 := cell_of_row _ _ 2 _ _ _ zb
  have z3 := cell_of_row _ _ 3 _ _ _ zb
  have z4 := cell_of_row _ _ 4 _ _ _ zb
  have FIN : Hid (InH wz h t (.agg #[.int .i64 yk, .string yn, .string yt, .slice yio yN yic, .slice yko yK ykc]) ∧ Below w.heap.size w wz) := ⟨(InF.keepB (lo' := w3.heap.size) (by rw [zs']; exact Nat.le_refl _) (fun b hb hl => zo b (by omega)) (Nat.le_refl _) HF6.out).toH, HB6.out.trans (zbl _ (by omega))⟩
  clear zb zo zbl hF6 hb6 HT zs' hZ6 HIt HZ3 HX3
  go_wp2_with fail
  (try simp only [Exit.inBlock, Exit.then])
  refine bodyPost_ret (v := .tuple #[.agg #[.int .i64 yk, .string yn, .string yt, .slice yio yN yic, .slice yko yK ykc], .bool true]) (by simp [results, Try.results9, go_sem, z0, z1, z2, z3, z4]) rfl ?_
  exact ⟨yk, yn, yt, yio, yN, yic, yko, yK, ykc, rfl, FIN⟩
set_option maxRecDepth 100000 in
set_option maxHeartbeats 6400000 in
theorem w_Get_none (h n : Nat) (T : VT) (s : SmO (h) n T) (hn : n ≤ 100000) (v : Value) (key : ByteArray) (hm : key ∉ T.keys) (w : World) (hI : InH w (h + 1) T v) :
    Calls Try.prog 9 #[v, .string key] w fun e w' => e = .returned (.tuple #[.agg #[.int .i64 0, .string ⟨#[]⟩, .string ⟨#[]⟩, .slice none 0 0, .slice none 0 0], .bool false]) ∧ Below w.heap.size w w' := by
  have hkl := s.keys
  have hit := s.item
  have hob := s.obj
  have h6 := s.kind
  have kA := s.obj.len
  obtain ⟨io, ic, ko, kc, rfl, p1, p2, p3, p4, p5, p6, p7, hk, hi⟩ := hI.open
  rw [← kA] at p5
  have kA' : T.items.length = T.keys.length := kA.symm
  rw [kA']
  have HIx : Hid (∀ u, Below w.heap.size w u → Calls Try.prog 19 #[.slice ko T.keys.length kc, .string key] u fun e w' => ∃ r : Int, e = .returned (.int .i64 r) ∧ Hid (IxR T.keys key r) ∧ Hid (Below u.heap.size u w')) := fun u hu => w_IndexS ko _ kc T.keys key u (hk.keep hu) rfl p6 (by omega)
  have HNo : Hid (∀ r, IxR T.keys key r → r = -1) := fun r hr => hr.elim (fun h => h.1) (fun ⟨k, _, hkk, e⟩ => absurd (by rw [← e, getD_key hkk]; exact List.getElem_mem hkk) hm)
  generalize T.keys = ks at *
  rw [h6]
  generalize T.num = tn at *
  generalize T.text = tt at *
  generalize ks.length = K at *
  clear hI s kA kA' p1 p2 p3 p4 p7 hk hi hit hob hm h6
  go_enter Try.func9, Try.ntmps9
  go_upto_region 1 with fail
  obtain ⟨W2, hW2⟩ : ∃ W2, (w.alloc (.cells #[.int .i64 6, .string tn, .string tt, .slice io K ic, .slice ko K kc] 25)).alloc (.cells #[.int .i64 0, .string ⟨#[]⟩, .string ⟨#[]⟩, .slice none 0 0, .slice none 0 0] 25) = W2 := ⟨_, rfl⟩
  have HB0 : Hid (Below w.heap.size w W2) := by rw [← hW2]; exact below2 w _ _
  have HX0 : Hid (W2.heap[w.heap.size]? = some (.cells #[.int .i64 6, .string tn, .string tt, .slice io K ic, .slice ko K kc] 25 (0, 0))) := by show _ = _; rw [← hW2]; exact (Below.heap_alloc _ _ _ (by simp)).trans (heap_alloc_new w _)
  have HZ0 : Hid (W2.heap[w.heap.size + 1]? = some (.cells #[.int .i64 0, .string ⟨#[]⟩, .string ⟨#[]⟩, .slice none 0 0, .slice none 0 0] 25 (0, 0))) := by
    show _ = _
    rw [← hW2]
    have := heap_alloc_new (w.alloc (.cells #[.int .i64 6, .string tn, .string tt, .slice io K ic, .slice ko K kc] 25)) (.cells #[.int .i64 0, .string ⟨#[]⟩, .string ⟨#[]⟩, .slice none 0 0, .slice none 0 0] 25)
    rwa [World.size_alloc] at this
  rw [hW2]
  clear hW2
  have c0 := cell_of_row _ _ 0 _ _ _ HX0.out
  have c1 := cell_of_row _ _ 1 _ _ _ HX0.out
  have c2 := cell_of_row _ _ 2 _ _ _ HX0.out
  have c3 := cell_of_row _ _ 3 _ _ _ HX0.out
  have c4 := cell_of_row _ _ 4 _ _ _ HX0.out
  go_wp2_with fail
  refine (HIx.out _ HB0.out).mono ?_
  rintro e w3 ⟨r, rfl, HR, HB⟩
  have HB3 := Hid.mk (below_more HB0.out HB.out)
  have HX3 := Hid.mk (heap_low HB.out (Array.getElem?_eq_some_iff.1 HX0.out).1 HX0.out)
  have hZ3 := heap_low HB.out (Array.getElem?_eq_some_iff.1 HZ0.out).1 HZ0.out
  clear c0 c1 c2 c3 c4
  have c0 := cell_of_row _ _ 0 _ _ _ HX3.out
  have c1 := cell_of_row _ _ 1 _ _ _ HX3.out
  have c2 := cell_of_row _ _ 2 _ _ _ HX3.out
  have c3 := cell_of_row _ _ 3 _ _ _ HX3.out
  have c4 := cell_of_row _ _ 4 _ _ _ HX3.out
  obtain rfl := HNo.out r HR.out
  clear HB0 HX0 HZ0 HIx HR HB HNo
  have HR9 := Hid.mk hZ3
  have hltR := (Array.getElem?_eq_some_iff.1 HR9.out).1
  have r0 := cell_of_row _ _ 0 _ _ _ HR9.out
  have r1 := cell_of_row _ _ 1 _ _ _ HR9.out
  have r2 := cell_of_row _ _ 2 _ _ _ HR9.out
  have r3 := cell_of_row _ _ 3 _ _ _ HR9.out
  have r4 := cell_of_row _ _ 4 _ _ _ HR9.out
  have fr : ∀ j, w3.frozen? ⟨w.heap.size + 1, j, none⟩ = false := fun j => frozen_row HR9.out
  obtain ⟨wz, hwz⟩ : ∃ wz, ((((w3.setCell ⟨w.heap.size + 1, 0, none⟩ (.int .i64 0)).setCell ⟨w.heap.size + 1, 1, none⟩ (.string ⟨#[]⟩)).setCell ⟨w.heap.size + 1, 2, none⟩ (.string ⟨#[]⟩)).setCell ⟨w.heap.size + 1, 3, none⟩ (.slice none 0 0)).setCell ⟨w.heap.size + 1, 4, none⟩ (.slice none 0 0) = wz := ⟨_, rfl⟩
  obtain ⟨zb, zo, zs', zbl⟩ := set5 w3 (w.heap.size + 1) _ _ _ _ _ _ _ _ _ _ _ HR9.out wz hwz.symm
  have z0 := cell_of_row _ _ 0 _ _ _ zb
  have z1 := cell_of_row _ _ 1 _ _ _ zb
  have z2 := cell_of_row _ _ 2 _ _ _ zb
  have z3 := cell_of_row _ _ 3 _ _ _ zb
  have z4 := cell_of_row _ _ 4 _ _ _ zb
  have FIN : Hid (Below w.heap.size w wz) := HB3.out.trans (zbl _ (by omega))
  clear zb zo zbl zs' hZ3 HX3
  go_wp2_with fail
  (try simp only [Exit.inBlock, Exit.then])
  refine bodyPost_ret (v := .tuple #[.agg #[.int .i64 0, .string ⟨#[]⟩, .string ⟨#[]⟩, .slice none 0 0, .slice none 0 0], .bool false]) (by simp [results, Try.results9, go_sem, z0, z1, z2, z3, z4]) rfl ?_
  exact ⟨rfl, FIN.out⟩
end Go.Proofs.Ytbaknnpjbokilaa
namespace Go.Proofs.Ytbaknnpjbokilaa
open Go.RowKit Go.Maps Go.Sort Go.Shelf
set_option linter.unusedVariables false
set_option linter.unusedSimpArgs false
attribute [local go_sem] Oper.semAt_some

theorem fld_in {W : World} {h a b : Nat} {key : ByteArray} {I : VT} {v0 v1 v2 v3 v4 : Value} (ha : W.heap[a]? = some (.cells #[.string key] 9 (0, 0))) (hb : W.heap[b]? = some (.cells #[v0, v1, v2, v3, v4] 25 (0, 0))) (hI : InH W h I (.agg #[v0, v1, v2, v3, v4])) (hs : key.size ≤ 140737488355328) :
    InH W (h + 1) (fldT key I) (.agg #[.int .i64 6, .string ⟨#[]⟩, .string ⟨#[]⟩, .slice (some ⟨b, 0, none⟩) 1 1, .slice (some ⟨a, 0, none⟩) 1 1]) := by
  refine ⟨some ⟨b, 0, none⟩, 1, some ⟨a, 0, none⟩, 1, rfl, (by show 0 ≤ _; omega), (by show 0 ≤ _; omega), (by show 1 ≤ _; omega), (by show 1 ≤ _; omega), (by show 1 ≤ 1; omega), (by show 1 ≤ 1; omega), (fun k hk => by rw [List.mem_singleton.1 hk]; exact hs), ⟨fun _ => ⟨a, 0, rfl, (Array.getElem?_eq_some_iff.1 ha).1, fun i hi => ?_⟩⟩, fun _ => ⟨b, 0, rfl, (Array.getElem?_eq_some_iff.1 hb).1, fun i hi => ?_⟩⟩
  · obtain rfl : i = 0 := by have h2 : i < 1 := hi; omega
    exact cell_of_row _ _ 0 _ _ _ ha
  · obtain rfl : i = 0 := by have h2 : i < 1 := hi; omega
    exact ⟨v0, v1, v2, v3, v4, ⟨cell_of_row _ _ 0 _ _ _ hb, cell_of_row _ _ 1 _ _ _ hb, cell_of_row _ _ 2 _ _ _ hb, cell_of_row _ _ 3 _ _ _ hb, cell_of_row _ _ 4 _ _ _ hb⟩, hI⟩
theorem boxes6 (w : World) (o1 o2 o3 o4 o5 o6 : Obj) (W : World) (hW : (((((w.alloc o1).alloc o2).alloc o3).alloc o4).alloc o5).alloc o6 = W) : W.heap[w.heap.size]? = some o1 ∧ W.heap[w.heap.size + 2]? = some o3 ∧ W.heap[w.heap.size + 3]? = some o4 ∧ W.heap[w.heap.size + 4]? = some o5 ∧ W.heap[w.heap.size + 5]? = some o6 ∧ Below w.heap.size w W := by
  subst hW
  have n : ∀ (u : World) (o : Obj), (u.alloc o).heap[u.heap.size]? = some o := fun u o => heap_alloc_new u o
  refine ⟨?_, ?_, ?_, ?_, ?_, below_more (below2 w _ _) (below_more (below2 _ _ _) (below2 _ _ _))⟩
  · iterate 5 rw [Below.heap_alloc _ _ _ (by simp <;> omega)]
    exact n w o1
  · iterate 3 rw [Below.heap_alloc _ _ _ (by simp <;> omega)]
    have := n ((w.alloc o1).alloc o2) o3
    simpa using this
  · iterate 2 rw [Below.heap_alloc _ _ _ (by simp <;> omega)]
    have := n (((w.alloc o1).alloc o2).alloc o3) o4
    simpa using this
  · rw [Below.heap_alloc _ _ _ (by simp <;> omega)]
    have := n ((((w.alloc o1).alloc o2).alloc o3).alloc o4) o5
    simpa using this
  · have := n (((((w.alloc o1).alloc o2).alloc o3).alloc o4).alloc o5) o6
    simpa using this
set_option maxRecDepth 100000 in
set_option maxHeartbeats 6400000 in
/-- With of a well shaped object and item -/
theorem w_With_ok (h n m : Nat) (T I : VT) (s : SmO h n T) (fi : formN h I = true) (si : szN h I ≤ m) (key : ByteArray) (hkey : okB key.data.toList = true) (hks : key.size ≤ 140737488355328) (hnm : n + (m + 2) ≤ 100000) (v vi : Value) (w : World) (hI : InH w (h + 1) T v) (hi0 : InH w h I vi) :
    Calls Try.prog 8 #[v, .string key, vi] w fun e w' => ∃ (yk : Int) (yn yt : ByteArray) (yio : Option Addr) (yN yic : Nat) (yko : Option Addr) (yK ykc : Nat), e = .returned (.tuple #[.agg #[.int .i64 yk, .string yn, .string yt, .slice yio yN yic, .slice yko yK ykc], .int .i64 0]) ∧ Hid (InH w' (h + 1) (mg T (fldT key I)) (.agg #[.int .i64 yk, .string yn, .string yt, .slice yio yN yic, .slice yko yK ykc]) ∧ Below w.heap.size w w') := by
  have sf := fldT_sm hkey fi si
  have k1 := s.keys
  have k2 := sf.keys
  have HT := Hid.mk hI
  have HIt := Hid.mk hi0
  have HKS := Hid.mk hks
  have HM := Hid.mk (fun (va vb : Value) (u : World) (h1 : InH u (h + 1) T va) (h2 : InH u (h + 1) (fldT key I) vb) => w_Merge_ok h T (fldT key I) va vb u h1 h2 s.kind sf.kind s.form sf.form (by omega) (Nat.le_trans (s.mg sf).sz hnm))
  obtain ⟨io, ic, ko, kc, rfl, p1, p2, p3, p4, p5, p6, p7, hk, hi⟩ := hI.open
  obtain ⟨ik, inn, it, iio, iN, iic, iko, iK, ikc, rfl⟩ : ∃ (ik : Int) (inn it : ByteArray) (iio : Option Addr) (iN iic : Nat) (iko : Option Addr) (iK ikc : Nat), vi = .agg #[.int .i64 ik, .string inn, .string it, .slice iio iN iic, .slice iko iK ikc] := by
    cases h with
    | zero => exact hi0.elim
    | succ h =>
      obtain ⟨a, b, c, d, e, _⟩ := hi0
      exact ⟨_, _, _, _, _, _, _, _, _, e⟩
  have HM2 : Hid (∀ va vb u, InH u (h + 1) T va → InH u (h + 1) (fldT key I) vb → Calls Try.prog 18 #[va, vb] u fun e w' => ∃ v, e = .returned (.tuple #[v, .int .i64 0]) ∧ Hid (InF u.heap.size w' (h + 1) (mg T (fldT key I)) v ∧ Below u.heap.size u w')) := fun va vb u h1 h2 => HM.out va vb u h1 h2
  generalize mg T (fldT key I) = MT at HM2 ⊢
  generalize T.kind = tk at *
  generalize T.num = tn at *
  generalize T.text = tt at *
  generalize T.keys.length = K at *
  generalize T.items.length = N at *
  clear hI s sf k1 k2 p1 p2 p3 p4 p5 p6 p7 hk hi fi si hkey hks hnm hi0 HM
  go_enter Try.func8, Try.ntmps8
  go_upto_region 2 with fail
  obtain ⟨W6, hW6⟩ : ∃ W6, ((((((w.alloc (.cells #[.int .i64 tk, .string tn, .string tt, .slice io N ic, .slice ko K kc] 25)).alloc (.cells #[.int .i64 ik, .string inn, .string it, .slice iio iN iic, .slice iko iK ikc] 25)).alloc (.cells #[.int .i64 0, .string ⟨#[]⟩, .string ⟨#[]⟩, .slice none 0 0, .slice none 0 0] 25)).alloc (.cells #[.string key] 9)).alloc (.cells #[.int .i64 ik, .string inn, .string it, .slice iio iN iic, .slice iko iK ikc] 25)).alloc (.cells #[.int .i64 6, .string ⟨#[]⟩, .string ⟨#[]⟩, .slice (some ⟨w.heap.size + 4, 0, none⟩) 1 1, .slice (some ⟨w.heap.size + 3, 0, none⟩) 1 1] 25)) = W6 := ⟨_, rfl⟩
  obtain ⟨b1, b3, b4, b5, b6, hb⟩ := boxes6 w _ _ _ _ _ _ W6 hW6
  have e3 : w.heap.size + 1 + 1 = w.heap.size + 2 := rfl
  rw [hW6]
  have HB := Hid.mk hb
  have HX := Hid.mk b1
  have HZ := Hid.mk b3
  have HF := Hid.mk b6
  have HFT := Hid.mk (fld_in b4 b5 (HIt.out.keep hb) HKS.out)
  clear hW6 b1 b3 b4 b5 b6 hb e3
  have c0 := cell_of_row _ _ 0 _ _ _ HX.out
  have c1 := cell_of_row _ _ 1 _ _ _ HX.out
  have c2 := cell_of_row _ _ 2 _ _ _ HX.out
  have c3 := cell_of_row _ _ 3 _ _ _ HX.out
  have c4 := cell_of_row _ _ 4 _ _ _ HX.out
  have d0 := cell_of_row _ _ 0 _ _ _ HF.out
  have d1 := cell_of_row _ _ 1 _ _ _ HF.out
  have d2 := cell_of_row _ _ 2 _ _ _ HF.out
  have d3 := cell_of_row _ _ 3 _ _ _ HF.out
  have d4 := cell_of_row _ _ 4 _ _ _ HF.out
  go_wp2_with fail
  refine (HM2.out _ _ _ (HT.out.keep HB.out) HFT.out).mono ?_
  rintro e w6 ⟨v', rfl, HQ⟩
  obtain ⟨hF6, hb6⟩ := HQ.out
  have HB6 := Hid.mk (below_more HB.out hb6)
  have hZ6 := heap_low hb6 (Array.getElem?_eq_some_iff.1 HZ.out).1 HZ.out
  obtain ⟨yk, yn, yt, yio, yN, yic, yko, yK, ykc, rfl⟩ := hF6.shape
  have HF6 := Hid.mk hF6
  have hlt5 := (Array.getElem?_eq_some_iff.1 HZ.out).1
  clear c0 c1 c2 c3 c4 d0 d1 d2 d3 d4
  have HR9 := Hid.mk hZ6
  have hltR := (Array.getElem?_eq_some_iff.1 HR9.out).1
  have r0 := cell_of_row _ _ 0 _ _ _ HR9.out
  have r1 := cell_of_row _ _ 1 _ _ _ HR9.out
  have r2 := cell_of_row _ _ 2 _ _ _ HR9.out
  have r3 := cell_of_row _ _ 3 _ _ _ HR9.out
  have r4 := cell_of_row _ _ 4 _ _ _ HR9.out
  have fr : ∀ j, w6.frozen? ⟨w.heap.size + 2, j, none⟩ = false := fun j => frozen_row HR9.out
  obtain ⟨wz, hwz⟩ : ∃ wz, ((((w6.setCell ⟨w.heap.size + 2, 0, none⟩ (.int .i64 yk)).setCell ⟨w.heap.size + 2, 1, none⟩ (.string yn)).setCell ⟨w.heap.size + 2, 2, none⟩ (.string yt)).setCell ⟨w.heap.size + 2, 3, none⟩ (.slice yio yN yic)).setCell ⟨w.heap.size + 2, 4, none⟩ (.slice yko yK ykc) = wz := ⟨_, rfl⟩
  obtain ⟨zb, zo, zs', zbl⟩ := set5 w6 (w.heap.size + 2) _ _ _ _ _ _ _ _ _ _ _ HR9.out wz hwz.symm
  have z0 := cell_of_row _ _ 0 _ _ _ zb
  have z1 := cell_of_row _ _ 1 _ _ _ zb
  have z2 := cell_of_row _ _ 2 _ _ _ zb
  have z3 := cell_of_row _ _ 3 _ _ _ zb
  have z4 := cell_of_row _ _ 4 _ _ _ zb
  have FIN : Hid (InH wz (h + 1) MT (.agg #[.int .i64 yk, .string yn, .string yt, .slice yio yN yic, .slice yko yK ykc]) ∧ Below w.heap.size w wz) := ⟨(InF.keepB (lo' := W6.heap.size) (by rw [zs']; exact Nat.le_refl _) (fun b hb hl => zo b (by omega)) (Nat.le_refl _) HF6.out).toH, HB6.out.trans (zbl _ (by omega))⟩
  clear zb zo zbl hF6 hb6 HM2 zs' hZ6 HQ HT HIt HFT
  go_wp2_with fail
  (try simp only [Exit.inBlock, Exit.then])
  refine bodyPost_ret (v := .tuple #[.agg #[.int .i64 yk, .string yn, .string yt, .slice yio yN yic, .slice yko yK ykc], .int .i64 0]) (by simp [results, Try.results8, go_sem, z0, z1, z2, z3, z4]) rfl ?_
  exact ⟨yk, yn, yt, yio, yN, yic, yko, yK, ykc, rfl, FIN⟩
end Go.Proofs.Ytbaknnpjbokilaa
