import Derived.Test.YtfjmgccbpiolhaaGreatDoorMW29
import Derived.Test.YtfjmgccbpiolhaaGreatDoorMW22
import Derived.Laws.EntriesVeiled
namespace Go.Proofs.YtfjmgccbpiolhaaGreatDoor
open Go.RowKit
set_option linter.unusedVariables false
set_option linter.unusedSimpArgs false

set_option maxRecDepth 100000 in
set_option maxHeartbeats 3200000 in
theorem rw_6p (h : Nat) (ih : RwOk6 none h) (nm tx : ByteArray) (io : Option Addr) (N icap : Nat) (ko : Option Addr) (kcap : Nat) (w : World) (keys : List ByteArray) (hK : keys.length = N) (hkc : N ≤ kcap) (hkin : KIn w ko keys) (hksz : ∀ k ∈ keys, k.size ≤ 68719476736) (hko : ∀ i, i < keys.length → okB (keys.getD i .empty).data.toList = true) (ts : List VT) (hts : ts.length = N) (hI : IIn w h io ts) (hN : N ≤ icap) (hN2 : N ≤ 140737488355328) (hf : ∀ t ∈ ts, formN h t = true) (hsh : ∀ t ∈ ts, ShV h t) (d : Nat) (hd : d + 1 ≤ 1099511627776) (hdt : ∀ t ∈ ts, d + 1 + szN h t ≤ 1099511627776)
    (it : Nat → List UInt8) (hit : ∀ i, (hi : i < ts.length) → it i = wrV none h (d + 1) ts[i]) (hlen : (rowW 123 125 (lnW none (d + 1)) (lnW none d) (fun i => wQ (keys.getD i .empty).data.toList ++ clW none) it N).length ≤ 140737488355328) :
    Calls Tryz.prog 46 #[.agg #[.int .i64 6, .string nm, .string tx, .slice io N icap, .slice ko N kcap], .int .i64 (d : Int), .int .i64 (-1)] w fun e w' => e = .returned (.string ⟨(rowW 123 125 (lnW none (d + 1)) (lnW none d) (fun i => wQ (keys.getD i .empty).data.toList ++ clW none) it N).toArray⟩) ∧ Below w.heap.size w w' := by
  have HX0 := Hid.mk (vbx_new w (.int .i64 6) (.string nm) (.string tx) (.slice io N icap) (.slice ko N kcap))
  obtain ⟨W0, hW0⟩ : ∃ W0, W0 = w.alloc (.cells #[.int .i64 6, .string nm, .string tx, .slice io N icap, .slice ko N kcap] 49) := ⟨_, rfl⟩
  rw [← hW0] at HX0
  have HW0 := Hid.mk hW0
  have hgx0 := HX0.out.c0
  have hst : ∀ s, (none : Option Nat) = some s → s ≤ 8 := (fun s e => by cases e)
  obtain ⟨g, hg⟩ : ∃ g, g = pcW 123 (lnW none (d + 1)) (fun i => wQ (keys.getD i .empty).data.toList ++ clW none) it := ⟨_, rfl⟩
  have HG := Hid.mk hg
  clear hg hW0
  go_enter Tryz.func46, Tryz.ntmps46
  go_wp2_with fail
  rw [← HW0.out]
  clear hgx0
  go_loopw [7, 9] (fun sv iv wr => ∃ (k : Nat) (a : ByteArray), k ≤ N ∧ sv = .string a ∧ iv = .int .i64 (k : Int) ∧ Hid (a.data.toList = accW 123 g k) ∧ Hid (Below W0.heap.size W0 wr)) (fun _ iv _ => N - (intOf iv).toNat)
  case atStart => exact ⟨0, ⟨#[123]⟩, Nat.zero_le _, rfl, rfl, rfl, Below.refl _ _⟩
  case round =>
    obtain ⟨k, a, hk, rfl, rfl, HA, HB⟩ := hrel
    have HX := Hid.mk (HX0.out.keep HB.out)
    have g0 := HX.out.c0
    have g3 := HX.out.c3
    have g4 := HX.out.c4
    have hg := HG.out
    have hrow : N ≠ 0 → (rowW 123 125 (lnW none (d + 1)) (lnW none d) (fun i => wQ (keys.getD i .empty).data.toList ++ clW none) it N).length = (joinR g N).length + ((lnW none d).length + 1) := by intro h0; unfold rowW; rw [if_neg h0, ← hg]; simp
    by_cases hlt : k < N
    · have hl1 : (k : Int) < (N : Int) := by omega
      have hix : (0 : Int) ≤ (k : Int) ∧ (k : Int) < (N : Int) := by omega
      obtain ⟨b, off, hio, hbl, hrw⟩ := hI.row (by omega)
      subst hio
      have hkt : k < ts.length := by omega
      obtain ⟨v0, v1, v2, v3, v4, ⟨e0, e1, e2, e3, e4⟩, ht⟩ := hrw k hkt
      obtain ⟨ik, inm, itx, iio, iN, iicap, iko, iK, ikcap, rfl, rfl, rfl, rfl, rfl⟩ := ht.shape
      have hwr : Below w.heap.size w wr := HX.out.below
      have HCell : Hid (∀ u, Below wr.heap.size wr u → u.cell? ⟨b, off + k * 5, none⟩ = some (.int .i64 ik) ∧ u.cell? ⟨b, off + k * 5 + 1, none⟩ = some (.string inm) ∧ u.cell? ⟨b, off + k * 5 + 2, none⟩ = some (.string itx) ∧ u.cell? ⟨b, off + k * 5 + 3, none⟩ = some (.slice iio iN iicap) ∧ u.cell? ⟨b, off + k * 5 + 4, none⟩ = some (.slice iko iK ikcap)) := fun u hu => by
        have hbu := hwr.trans (hu.mono hwr.size)
        exact ⟨(hbu.cell (p := ⟨_, _, _⟩) hbl).trans e0, (hbu.cell (p := ⟨_, _, _⟩) hbl).trans e1, (hbu.cell (p := ⟨_, _, _⟩) hbl).trans e2, (hbu.cell (p := ⟨_, _, _⟩) hbl).trans e3, (hbu.cell (p := ⟨_, _, _⟩) hbl).trans e4⟩
      have htm : ts[k] ∈ ts := List.getElem_mem hkt
      obtain ⟨ls, hls⟩ : ∃ ls : ByteArray, ls = ⟨(lnW none (d + 1)).toArray⟩ := ⟨_, rfl⟩
      have hlsl : ls.data.toList = lnW none (d + 1) := by rw [hls]
      have hlz := bsz hlsl
      obtain ⟨ts_, hts_⟩ : ∃ ts_ : ByteArray, ts_ = ⟨(it k).toArray⟩ := ⟨_, rfl⟩
      have htsl : ts_.data.toList = it k := by rw [hts_]
      have htz := bsz htsl
      obtain ⟨kb, koff, hko', hkbl, hkrow⟩ := hkin.row (by omega)
      subst hko'
      have hck := hkrow k (by omega)
      obtain ⟨key, hkey⟩ : ∃ key, keys.getD k .empty = key := ⟨_, rfl⟩
      rw [hkey] at hck
      have hksz1 : key.size ≤ 68719476736 := by
        have e : keys.getD k .empty = keys[k] := by simp [List.getD, hK, hlt]
        rw [← hkey, e]; exact hksz _ (List.getElem_mem _)
      have hko1 : okB key.data.toList = true := by rw [← hkey]; exact hko k (by omega)
      have HKey : Hid (∀ u, Below wr.heap.size wr u → u.cell? ⟨kb, koff + k, none⟩ = some (.string key)) := fun u hu => ((hwr.trans (hu.mono hwr.size)).cell (p := ⟨_, _, _⟩) hkbl).trans hck
      obtain ⟨qs, hqs⟩ : ∃ qs : ByteArray, qs = ⟨(wQ key.data.toList).toArray⟩ := ⟨_, rfl⟩
      have hqsl : qs.data.toList = wQ key.data.toList := by rw [hqs]
      have hqz := bsz hqsl
      have hgk : g k = (sepW 123 k ++ lnW none (d + 1) ++ (wQ (keys.getD k .empty).data.toList ++ clW none)) ++ it k := by rw [hg]; rfl
      have hjl : (joinR g (k + 1)).length ≤ (joinR g N).length := joinR_le g (by omega)
      have hjk : (joinR g (k + 1)).length = (joinR g k).length + (1 + (lnW none (d + 1)).length + ((wQ (keys.getD k .empty).data.toList ++ clW none)).length + (it k).length) := by simp only [joinR, List.length_append, hgk, sepW_len]
      have hrl := hrow (by omega)
      rw [hkey] at hgk hjk
      have hcl : (clW none).length = 1 := rfl
      rw [List.length_append, hcl] at hjk
      clear hkrow hck hkey
      have HLn : Hid (∀ u, Calls Tryz.prog 93 #[.int .i64 ((d : Int) + 1), .int .i64 (-1)] u fun e w' => e = .returned (.string ls) ∧ Below u.heap.size u w') := fun u => by
        have h1 := w_rline none (d + 1) u hst hd
        rw [← hls] at h1
        rw [show ((d : Int) + 1) = ((d + 1 : Nat) : Int) by omega]
        exact h1
      have HIt : Hid (∀ u, Below W0.heap.size W0 u → Calls Tryz.prog 46 #[.agg #[.int .i64 ik, .string inm, .string itx, .slice iio iN iicap, .slice iko iK ikcap], .int .i64 ((d : Int) + 1), .int .i64 (-1)] u fun e w' => e = .returned (.string ts_) ∧ Below u.heap.size u w') := fun u hu => by
        have hbu : Below w.heap.size w u := (HX0.out.below).trans (hu.mono HX0.out.below.size)
        have hik := hit k hkt
        have h1 := ih ts[k] _ u (d + 1) (ht.keep hbu) (hf _ htm) (hsh _ htm) (hdt _ htm) (by rw [← hik]; omega)
        rw [← hik, ← hts_] at h1
        rw [show ((d : Int) + 1) = ((d + 1 : Nat) : Int) by omega]
        exact h1
      clear hls hts_ htm ht hrw e0 e1 e2 e3 e4 hg hrow
      by_cases hk0 : k = 0
      · have hkp : ¬ (0 : Int) < (k : Int) := by omega
        have hS1 : (a).data.toList = joinR g k ++ sepW 123 k := by
          rw [HA.out]; unfold accW sepW; rw [if_pos hk0, if_pos hk0, hk0]; rfl
        have hz1 := bsz hS1
        have hz0 := bsz HA.out
        simp only [List.length_append, sepW_len] at hz1
        have hp1 : ¬ 9223372036854775807 < (a).size + ls.size := by omega
        have hz2 : (a ++ ls).size = (a).size + ls.size := by rw [ByteArray.size_append]
        have hp3 : ¬ 9223372036854775807 < (a ++ ls).size + qs.size := by omega
        have hz3 : (a ++ ls ++ qs).size = (a ++ ls).size + qs.size := by rw [ByteArray.size_append]
        have hp4 : ¬ 9223372036854775807 < (a ++ ls ++ qs).size + 1 := by omega
        have hz4 : (a ++ ls ++ qs ++ ⟨#[58]⟩).size = (a ++ ls ++ qs).size + 1 := by rw [ByteArray.size_append]; rfl
        have hp6 : ¬ 9223372036854775807 < (a ++ ls ++ qs ++ ⟨#[58]⟩).size + ts_.size := by omega
        have hp1e : ¬ 9223372036854775807 < a.size + ls.size := by omega
        have hp3e : ¬ 9223372036854775807 < a.size + ls.size + qs.size := by omega
        have hp4e : ¬ 9223372036854775807 < a.size + ls.size + qs.size + 1 := by omega
        have hp6e : ¬ 9223372036854775807 < a.size + ls.size + qs.size + 1 + ts_.size := by omega
        have HFin : Hid ((a ++ ls ++ qs ++ ⟨#[58]⟩ ++ ts_).data.toList = accW 123 g (k + 1)) := by
          show _ = _
          have e1 : (a ++ ls ++ qs ++ ⟨#[58]⟩ ++ ts_).data.toList = (a).data.toList ++ ls.data.toList ++ qs.data.toList ++ [58] ++ ts_.data.toList := by simp
          rw [e1, hS1, hlsl, htsl, hqsl]
          unfold accW
          rw [if_neg (by omega)]
          simp only [joinR, hgk, clW, List.append_assoc, List.cons_append, List.nil_append, List.append_nil]
        have HQu : Hid (∀ u, Calls Tryz.prog 94 #[.string key] u fun e w' => e = .returned (.string qs) ∧ Below u.heap.size u w') := fun u => by rw [hqs]; exact rq_wQ key u hksz1 hko1
        have HK0 := Hid.mk hk0
        clear hk0
        clear hlz htz hit hqz hqs
        clear hS1 hz1 hz0 hz2 hz3 hz4 hlsl htsl hqsl hgk hjk
        go_wp2_with fail
        refine (HLn.out _).mono ?_
        rintro e w2 ⟨rfl, hb2⟩
        have HX2 := Hid.mk (HX.out.keep hb2)
        have HB2 := Hid.mk (HB.out.trans (hb2.mono HB.out.size))
        have g0 := HX2.out.c0
        have g3 := HX2.out.c3
        have g4 := HX2.out.c4
        obtain ⟨c0, c1, c2, c3, c4⟩ := HCell.out _ hb2
        have ck := HKey.out _ hb2
        clear hb2
        go_wp2_with fail
        refine (HQu.out _).mono ?_
        rintro e w3 ⟨rfl, hb3⟩
        have HX3 := Hid.mk (HX2.out.keep hb3)
        have HB3 := Hid.mk (HB2.out.trans (hb3.mono HB2.out.size))
        have d0 := (hb3.cell (p := ⟨_, _, _⟩) (World.block_lt_of_cell? _ _ c0)).trans c0
        have d1 := (hb3.cell (p := ⟨_, _, _⟩) (World.block_lt_of_cell? _ _ c1)).trans c1
        have d2 := (hb3.cell (p := ⟨_, _, _⟩) (World.block_lt_of_cell? _ _ c2)).trans c2
        have d3 := (hb3.cell (p := ⟨_, _, _⟩) (World.block_lt_of_cell? _ _ c3)).trans c3
        have d4 := (hb3.cell (p := ⟨_, _, _⟩) (World.block_lt_of_cell? _ _ c4)).trans c4
        clear g0 g3 g4 c0 c1 c2 c3 c4 ck
        have g0 := HX3.out.c0
        have g3 := HX3.out.c3
        have g4 := HX3.out.c4
        clear hb3
        go_wp2_with fail
        refine (HIt.out w3 HB3.out).mono ?_
        rintro e w4 ⟨rfl, hb4⟩
        have HB4 := Hid.mk (HB3.out.trans (hb4.mono HB3.out.size))
        clear hb4
        go_wp2_with fail
        go_roundw
        case rel => exact ⟨k + 1, _, hlt, rfl, by go_num, HFin, HB4⟩
        case measure => simp [intOf]; omega
      · have hkp : (0 : Int) < (k : Int) := by omega
        have hS1 : (a ++ ⟨#[44]⟩).data.toList = joinR g k ++ sepW 123 k := by
          rw [show (a ++ ByteArray.mk #[44]).data.toList = a.data.toList ++ [44] by simp, HA.out]; unfold accW sepW; rw [if_neg hk0, if_neg hk0]
        have hz1 := bsz hS1
        have hz0 := bsz HA.out
        simp only [List.length_append, sepW_len] at hz1
        have hp0 : ¬ 9223372036854775807 < a.size + 1 := by rw [ByteArray.size_append] at hz1; omega
        have hp1 : ¬ 9223372036854775807 < (a ++ ⟨#[44]⟩).size + ls.size := by omega
        have hz2 : (a ++ ⟨#[44]⟩ ++ ls).size = (a ++ ⟨#[44]⟩).size + ls.size := by rw [ByteArray.size_append]
        have hp3 : ¬ 9223372036854775807 < (a ++ ⟨#[44]⟩ ++ ls).size + qs.size := by omega
        have hz3 : (a ++ ⟨#[44]⟩ ++ ls ++ qs).size = (a ++ ⟨#[44]⟩ ++ ls).size + qs.size := by rw [ByteArray.size_append]
        have hp4 : ¬ 9223372036854775807 < (a ++ ⟨#[44]⟩ ++ ls ++ qs).size + 1 := by omega
        have hz4 : (a ++ ⟨#[44]⟩ ++ ls ++ qs ++ ⟨#[58]⟩).size = (a ++ ⟨#[44]⟩ ++ ls ++ qs).size + 1 := by rw [ByteArray.size_append]; rfl
        have hp6 : ¬ 9223372036854775807 < (a ++ ⟨#[44]⟩ ++ ls ++ qs ++ ⟨#[58]⟩).size + ts_.size := by omega
        have hz1e : (a ++ ByteArray.mk #[44]).size = a.size + 1 := by rw [ByteArray.size_append]; rfl
        have hp1e : ¬ 9223372036854775807 < a.size + 1 + ls.size := by omega
        have hp3e : ¬ 9223372036854775807 < a.size + 1 + ls.size + qs.size := by omega
        have hp4e : ¬ 9223372036854775807 < a.size + 1 + ls.size + qs.size + 1 := by omega
        have hp6e : ¬ 9223372036854775807 < a.size + 1 + ls.size + qs.size + 1 + ts_.size := by omega
        have HFin : Hid ((a ++ ⟨#[44]⟩ ++ ls ++ qs ++ ⟨#[58]⟩ ++ ts_).data.toList = accW 123 g (k + 1)) := by
          show _ = _
          have e1 : (a ++ ⟨#[44]⟩ ++ ls ++ qs ++ ⟨#[58]⟩ ++ ts_).data.toList = (a ++ ⟨#[44]⟩).data.toList ++ ls.data.toList ++ qs.data.toList ++ [58] ++ ts_.data.toList := by simp
          rw [e1, hS1, hlsl, htsl, hqsl]
          unfold accW
          rw [if_neg (by omega)]
          simp only [joinR, hgk, clW, List.append_assoc, List.cons_append, List.nil_append, List.append_nil]
        have HQu : Hid (∀ u, Calls Tryz.prog 94 #[.string key] u fun e w' => e = .returned (.string qs) ∧ Below u.heap.size u w') := fun u => by rw [hqs]; exact rq_wQ key u hksz1 hko1
        clear hz1e
        clear hlz htz hit hqz hqs
        clear hS1 hz1 hz0 hz2 hz3 hz4 hlsl htsl hqsl hgk hjk
        go_wp2_with fail
        refine (HLn.out _).mono ?_
        rintro e w2 ⟨rfl, hb2⟩
        have HX2 := Hid.mk (HX.out.keep hb2)
        have HB2 := Hid.mk (HB.out.trans (hb2.mono HB.out.size))
        have g0 := HX2.out.c0
        have g3 := HX2.out.c3
        have g4 := HX2.out.c4
        obtain ⟨c0, c1, c2, c3, c4⟩ := HCell.out _ hb2
        have ck := HKey.out _ hb2
        clear hb2
        go_wp2_with fail
        refine (HQu.out _).mono ?_
        rintro e w3 ⟨rfl, hb3⟩
        have HX3 := Hid.mk (HX2.out.keep hb3)
        have HB3 := Hid.mk (HB2.out.trans (hb3.mono HB2.out.size))
        have d0 := (hb3.cell (p := ⟨_, _, _⟩) (World.block_lt_of_cell? _ _ c0)).trans c0
        have d1 := (hb3.cell (p := ⟨_, _, _⟩) (World.block_lt_of_cell? _ _ c1)).trans c1
        have d2 := (hb3.cell (p := ⟨_, _, _⟩) (World.block_lt_of_cell? _ _ c2)).trans c2
        have d3 := (hb3.cell (p := ⟨_, _, _⟩) (World.block_lt_of_cell? _ _ c3)).trans c3
        have d4 := (hb3.cell (p := ⟨_, _, _⟩) (World.block_lt_of_cell? _ _ c4)).trans c4
        clear g0 g3 g4 c0 c1 c2 c3 c4 ck
        have g0 := HX3.out.c0
        have g3 := HX3.out.c3
        have g4 := HX3.out.c4
        clear hb3
        go_wp2_with fail
        refine (HIt.out w3 HB3.out).mono ?_
        rintro e w4 ⟨rfl, hb4⟩
        have HB4 := Hid.mk (HB3.out.trans (hb4.mono HB3.out.size))
        clear hb4
        go_wp2_with fail
        go_roundw
        case rel => exact ⟨k + 1, _, hlt, rfl, by go_num, HFin, HB4⟩
        case measure => simp [intOf]; omega
    · have hl1 : ¬ (k : Int) < (N : Int) := by omega
      obtain rfl : k = N := by omega
      have HA0 := HA.out
      by_cases h0 : k = 0
      · subst h0
        have hnn : ¬ (0 : Int) < ((0 : Nat) : Int) := by omega
        have haz := bsz HA0
        have hacc : accW 123 g 0 = [123] := rfl
        rw [hacc] at haz HA0
        have hp1 : ¬ 9223372036854775807 < a.size + 1 := by rw [haz]; decide
        have HFin : Hid (a ++ ⟨#[125]⟩ = ⟨(rowW 123 125 (lnW none (d + 1)) (lnW none d) (fun i => wQ (keys.getD i .empty).data.toList ++ clW none) it 0).toArray⟩) := by
          show _ = _
          rw [bmk HA0]; rfl
        clear HA0 haz hrow hg hacc hlen hit
        go_wp2_with fail
        go_ret
        exact ⟨by rw [HFin.out]; rfl, HX.out.below⟩
      · have hnn : (0 : Int) < (k : Int) := by omega
        have hrl := hrow h0
        have hacc : accW 123 g k = joinR g k := by unfold accW; rw [if_neg h0]
        rw [hacc] at HA0
        have haz := bsz HA0
        obtain ⟨ls, hls⟩ : ∃ ls : ByteArray, ls = ⟨(lnW none d).toArray⟩ := ⟨_, rfl⟩
        have hlsl : ls.data.toList = lnW none d := by rw [hls]
        have hlz := bsz hlsl
        have HLn : Hid (∀ u, Calls Tryz.prog 93 #[.int .i64 (d : Int), .int .i64 (-1)] u fun e w' => e = .returned (.string ls) ∧ Below u.heap.size u w') := fun u => by
          have h1 := w_rline none d u hst (by omega)
          rw [← hls] at h1
          exact h1
        have hp1 : ¬ 9223372036854775807 < a.size + ls.size := by omega
        have hp2 : ¬ 9223372036854775807 < (a ++ ls).size + 1 := by rw [ByteArray.size_append]; omega
        have hp2e : ¬ 9223372036854775807 < a.size + ls.size + 1 := by omega
        have HFin : Hid (a ++ ls ++ ⟨#[125]⟩ = ⟨(rowW 123 125 (lnW none (d + 1)) (lnW none d) (fun i => wQ (keys.getD i .empty).data.toList ++ clW none) it k).toArray⟩) := by
          show _ = _
          refine bmk ?_
          unfold rowW
          rw [if_neg h0, ← hg]
          simp [HA0, hlsl]
        clear HA0 haz hrow hg hacc hlen hit hls hlsl hlz hrl
        go_wp2_with fail
        refine (HLn.out _).mono ?_
        rintro e w2 ⟨rfl, hb2⟩
        have HB2 := Hid.mk (HX.out.keep hb2).below
        clear hb2
        go_wp2_with fail
        go_ret
        exact ⟨by rw [HFin.out]; rfl, HB2.out⟩
end Go.Proofs.YtfjmgccbpiolhaaGreatDoor
namespace Go.Proofs.YtfjmgccbpiolhaaGreatDoor
open Go.RowKit
set_option linter.unusedVariables false
set_option linter.unusedSimpArgs false

set_option maxRecDepth 100000 in
set_option maxHeartbeats 3200000 in
theorem rw_6l (h : Nat) (sp : Nat) (hsp : sp ≤ 8) (ih : RwOk6 (some sp) h) (nm tx : ByteArray) (io : Option Addr) (N icap : Nat) (ko : Option Addr) (kcap : Nat) (w : World) (keys : List ByteArray) (hK : keys.length = N) (hkc : N ≤ kcap) (hkin : KIn w ko keys) (hksz : ∀ k ∈ keys, k.size ≤ 68719476736) (hko : ∀ i, i < keys.length → okB (keys.getD i .empty).data.toList = true) (ts : List VT) (hts : ts.length = N) (hI : IIn w h io ts) (hN : N ≤ icap) (hN2 : N ≤ 140737488355328) (hf : ∀ t ∈ ts, formN h t = true) (hsh : ∀ t ∈ ts, ShV h t) (d : Nat) (hd : d + 1 ≤ 1099511627776) (hdt : ∀ t ∈ ts, d + 1 + szN h t ≤ 1099511627776)
    (it : Nat → List UInt8) (hit : ∀ i, (hi : i < ts.length) → it i = wrV (some sp) h (d + 1) ts[i]) (hlen : (rowW 123 125 (lnW (some sp) (d + 1)) (lnW (some sp) d) (fun i => wQ (keys.getD i .empty).data.toList ++ clW (some sp)) it N).length ≤ 140737488355328) :
    Calls Tryz.prog 46 #[.agg #[.int .i64 6, .string nm, .string tx, .slice io N icap, .slice ko N kcap], .int .i64 (d : Int), .int .i64 (sp : Int)] w fun e w' => e = .returned (.string ⟨(rowW 123 125 (lnW (some sp) (d + 1)) (lnW (some sp) d) (fun i => wQ (keys.getD i .empty).data.toList ++ clW (some sp)) it N).toArray⟩) ∧ Below w.heap.size w w' := by
  have HX0 := Hid.mk (vbx_new w (.int .i64 6) (.string nm) (.string tx) (.slice io N icap) (.slice ko N kcap))
  obtain ⟨W0, hW0⟩ : ∃ W0, W0 = w.alloc (.cells #[.int .i64 6, .string nm, .string tx, .slice io N icap, .slice ko N kcap] 49) := ⟨_, rfl⟩
  rw [← hW0] at HX0
  have HW0 := Hid.mk hW0
  have hgx0 := HX0.out.c0
  have hst : ∀ s, ((some sp) : Option Nat) = some s → s ≤ 8 := (fun s e => by cases e; exact hsp)
  obtain ⟨g, hg⟩ : ∃ g, g = pcW 123 (lnW (some sp) (d + 1)) (fun i => wQ (keys.getD i .empty).data.toList ++ clW (some sp)) it := ⟨_, rfl⟩
  have HG := Hid.mk hg
  clear hg hW0
  have hs0 : (0 : Int) ≤ (sp : Int) := by omega
  go_enter Tryz.func46, Tryz.ntmps46
  go_wp2_with fail
  rw [← HW0.out]
  clear hgx0
  go_loopw [7, 9] (fun sv iv wr => ∃ (k : Nat) (a : ByteArray), k ≤ N ∧ sv = .string a ∧ iv = .int .i64 (k : Int) ∧ Hid (a.data.toList = accW 123 g k) ∧ Hid (Below W0.heap.size W0 wr)) (fun _ iv _ => N - (intOf iv).toNat)
  case atStart => exact ⟨0, ⟨#[123]⟩, Nat.zero_le _, rfl, rfl, rfl, Below.refl _ _⟩
  case round =>
    obtain ⟨k, a, hk, rfl, rfl, HA, HB⟩ := hrel
    have HX := Hid.mk (HX0.out.keep HB.out)
    have g0 := HX.out.c0
    have g3 := HX.out.c3
    have g4 := HX.out.c4
    have hg := HG.out
    have hrow : N ≠ 0 → (rowW 123 125 (lnW (some sp) (d + 1)) (lnW (some sp) d) (fun i => wQ (keys.getD i .empty).data.toList ++ clW (some sp)) it N).length = (joinR g N).length + ((lnW (some sp) d).length + 1) := by intro h0; unfold rowW; rw [if_neg h0, ← hg]; simp
    by_cases hlt : k < N
    · have hl1 : (k : Int) < (N : Int) := by omega
      have hix : (0 : Int) ≤ (k : Int) ∧ (k : Int) < (N : Int) := by omega
      obtain ⟨b, off, hio, hbl, hrw⟩ := hI.row (by omega)
      subst hio
      have hkt : k < ts.length := by omega
      obtain ⟨v0, v1, v2, v3, v4, ⟨e0, e1, e2, e3, e4⟩, ht⟩ := hrw k hkt
      obtain ⟨ik, inm, itx, iio, iN, iicap, iko, iK, ikcap, rfl, rfl, rfl, rfl, rfl⟩ := ht.shape
      have hwr : Below w.heap.size w wr := HX.out.below
      have HCell : Hid (∀ u, Below wr.heap.size wr u → u.cell? ⟨b, off + k * 5, none⟩ = some (.int .i64 ik) ∧ u.cell? ⟨b, off + k * 5 + 1, none⟩ = some (.string inm) ∧ u.cell? ⟨b, off + k * 5 + 2, none⟩ = some (.string itx) ∧ u.cell? ⟨b, off + k * 5 + 3, none⟩ = some (.slice iio iN iicap) ∧ u.cell? ⟨b, off + k * 5 + 4, none⟩ = some (.slice iko iK ikcap)) := fun u hu => by
        have hbu := hwr.trans (hu.mono hwr.size)
        exact ⟨(hbu.cell (p := ⟨_, _, _⟩) hbl).trans e0, (hbu.cell (p := ⟨_, _, _⟩) hbl).trans e1, (hbu.cell (p := ⟨_, _, _⟩) hbl).trans e2, (hbu.cell (p := ⟨_, _, _⟩) hbl).trans e3, (hbu.cell (p := ⟨_, _, _⟩) hbl).trans e4⟩
      have htm : ts[k] ∈ ts := List.getElem_mem hkt
      obtain ⟨ls, hls⟩ : ∃ ls : ByteArray, ls = ⟨(lnW (some sp) (d + 1)).toArray⟩ := ⟨_, rfl⟩
      have hlsl : ls.data.toList = lnW (some sp) (d + 1) := by rw [hls]
      have hlz := bsz hlsl
      obtain ⟨ts_, hts_⟩ : ∃ ts_ : ByteArray, ts_ = ⟨(it k).toArray⟩ := ⟨_, rfl⟩
      have htsl : ts_.data.toList = it k := by rw [hts_]
      have htz := bsz htsl
      obtain ⟨kb, koff, hko', hkbl, hkrow⟩ := hkin.row (by omega)
      subst hko'
      have hck := hkrow k (by omega)
      obtain ⟨key, hkey⟩ : ∃ key, keys.getD k .empty = key := ⟨_, rfl⟩
      rw [hkey] at hck
      have hksz1 : key.size ≤ 68719476736 := by
        have e : keys.getD k .empty = keys[k] := by simp [List.getD, hK, hlt]
        rw [← hkey, e]; exact hksz _ (List.getElem_mem _)
      have hko1 : okB key.data.toList = true := by rw [← hkey]; exact hko k (by omega)
      have HKey : Hid (∀ u, Below wr.heap.size wr u → u.cell? ⟨kb, koff + k, none⟩ = some (.string key)) := fun u hu => ((hwr.trans (hu.mono hwr.size)).cell (p := ⟨_, _, _⟩) hkbl).trans hck
      obtain ⟨qs, hqs⟩ : ∃ qs : ByteArray, qs = ⟨(wQ key.data.toList).toArray⟩ := ⟨_, rfl⟩
      have hqsl : qs.data.toList = wQ key.data.toList := by rw [hqs]
      have hqz := bsz hqsl
      have hgk : g k = (sepW 123 k ++ lnW (some sp) (d + 1) ++ (wQ (keys.getD k .empty).data.toList ++ clW (some sp))) ++ it k := by rw [hg]; rfl
      have hjl : (joinR g (k + 1)).length ≤ (joinR g N).length := joinR_le g (by omega)
      have hjk : (joinR g (k + 1)).length = (joinR g k).length + (1 + (lnW (some sp) (d + 1)).length + ((wQ (keys.getD k .empty).data.toList ++ clW (some sp))).length + (it k).length) := by simp only [joinR, List.length_append, hgk, sepW_len]
      have hrl := hrow (by omega)
      rw [hkey] at hgk hjk
      have hcl : (clW (some sp)).length = 2 := rfl
      rw [List.length_append, hcl] at hjk
      clear hkrow hck hkey
      have HLn : Hid (∀ u, Calls Tryz.prog 93 #[.int .i64 ((d : Int) + 1), .int .i64 (sp : Int)] u fun e w' => e = .returned (.string ls) ∧ Below u.heap.size u w') := fun u => by
        have h1 := w_rline (some sp) (d + 1) u hst hd
        rw [← hls] at h1
        rw [show ((d : Int) + 1) = ((d + 1 : Nat) : Int) by omega]
        exact h1
      have HIt : Hid (∀ u, Below W0.heap.size W0 u → Calls Tryz.prog 46 #[.agg #[.int .i64 ik, .string inm, .string itx, .slice iio iN iicap, .slice iko iK ikcap], .int .i64 ((d : Int) + 1), .int .i64 (sp : Int)] u fun e w' => e = .returned (.string ts_) ∧ Below u.heap.size u w') := fun u hu => by
        have hbu : Below w.heap.size w u := (HX0.out.below).trans (hu.mono HX0.out.below.size)
        have hik := hit k hkt
        have h1 := ih ts[k] _ u (d + 1) (ht.keep hbu) (hf _ htm) (hsh _ htm) (hdt _ htm) (by rw [← hik]; omega)
        rw [← hik, ← hts_] at h1
        rw [show ((d : Int) + 1) = ((d + 1 : Nat) : Int) by omega]
        exact h1
      clear hls hts_ htm ht hrw e0 e1 e2 e3 e4 hg hrow
      by_cases hk0 : k = 0
      · have hkp : ¬ (0 : Int) < (k : Int) := by omega
        have hS1 : (a).data.toList = joinR g k ++ sepW 123 k := by
          rw [HA.out]; unfold accW sepW; rw [if_pos hk0, if_pos hk0, hk0]; rfl
        have hz1 := bsz hS1
        have hz0 := bsz HA.out
        simp only [List.length_append, sepW_len] at hz1
        have hp1 : ¬ 9223372036854775807 < (a).size + ls.size := by omega
        have hz2 : (a ++ ls).size = (a).size + ls.size := by rw [ByteArray.size_append]
        have hp3 : ¬ 9223372036854775807 < (a ++ ls).size + qs.size := by omega
        have hz3 : (a ++ ls ++ qs).size = (a ++ ls).size + qs.size := by rw [ByteArray.size_append]
        have hp4 : ¬ 9223372036854775807 < (a ++ ls ++ qs).size + 1 := by omega
        have hz4 : (a ++ ls ++ qs ++ ⟨#[58]⟩).size = (a ++ ls ++ qs).size + 1 := by rw [ByteArray.size_append]; rfl
        have hp5 : ¬ 9223372036854775807 < (a ++ ls ++ qs ++ ⟨#[58]⟩).size + 1 := by omega
        have hz5 : (a ++ ls ++ qs ++ ⟨#[58]⟩ ++ ⟨#[32]⟩).size = (a ++ ls ++ qs ++ ⟨#[58]⟩).size + 1 := by rw [ByteArray.size_append]; rfl
        have hp6 : ¬ 9223372036854775807 < (a ++ ls ++ qs ++ ⟨#[58]⟩ ++ ⟨#[32]⟩).size + ts_.size := by omega
        have hp1e : ¬ 9223372036854775807 < a.size + ls.size := by omega
        have hp3e : ¬ 9223372036854775807 < a.size + ls.size + qs.size := by omega
        have hp4e : ¬ 9223372036854775807 < a.size + ls.size + qs.size + 1 := by omega
        have hp5e : ¬ 9223372036854775807 < a.size + ls.size + qs.size + 1 + 1 := by omega
        have hp6e : ¬ 9223372036854775807 < a.size + ls.size + qs.size + 1 + 1 + ts_.size := by omega
        have HFin : Hid ((a ++ ls ++ qs ++ ⟨#[58]⟩ ++ ⟨#[32]⟩ ++ ts_).data.toList = accW 123 g (k + 1)) := by
          show _ = _
          have e1 : (a ++ ls ++ qs ++ ⟨#[58]⟩ ++ ⟨#[32]⟩ ++ ts_).data.toList = (a).data.toList ++ ls.data.toList ++ qs.data.toList ++ [58] ++ [32] ++ ts_.data.toList := by simp
          rw [e1, hS1, hlsl, htsl, hqsl]
          unfold accW
          rw [if_neg (by omega)]
          simp only [joinR, hgk, clW, List.append_assoc, List.cons_append, List.nil_append, List.append_nil]
        have HQu : Hid (∀ u, Calls Tryz.prog 94 #[.string key] u fun e w' => e = .returned (.string qs) ∧ Below u.heap.size u w') := fun u => by rw [hqs]; exact rq_wQ key u hksz1 hko1
        have HK0 := Hid.mk hk0
        clear hk0
        clear hlz htz hit hqz hqs
        clear hS1 hz1 hz0 hz2 hz3 hz4 hz5 hlsl htsl hqsl hgk hjk
        go_wp2_with fail
        refine (HLn.out _).mono ?_
        rintro e w2 ⟨rfl, hb2⟩
        have HX2 := Hid.mk (HX.out.keep hb2)
        have HB2 := Hid.mk (HB.out.trans (hb2.mono HB.out.size))
        have g0 := HX2.out.c0
        have g3 := HX2.out.c3
        have g4 := HX2.out.c4
        obtain ⟨c0, c1, c2, c3, c4⟩ := HCell.out _ hb2
        have ck := HKey.out _ hb2
        clear hb2
        go_wp2_with fail
        refine (HQu.out _).mono ?_
        rintro e w3 ⟨rfl, hb3⟩
        have HX3 := Hid.mk (HX2.out.keep hb3)
        have HB3 := Hid.mk (HB2.out.trans (hb3.mono HB2.out.size))
        have d0 := (hb3.cell (p := ⟨_, _, _⟩) (World.block_lt_of_cell? _ _ c0)).trans c0
        have d1 := (hb3.cell (p := ⟨_, _, _⟩) (World.block_lt_of_cell? _ _ c1)).trans c1
        have d2 := (hb3.cell (p := ⟨_, _, _⟩) (World.block_lt_of_cell? _ _ c2)).trans c2
        have d3 := (hb3.cell (p := ⟨_, _, _⟩) (World.block_lt_of_cell? _ _ c3)).trans c3
        have d4 := (hb3.cell (p := ⟨_, _, _⟩) (World.block_lt_of_cell? _ _ c4)).trans c4
        clear g0 g3 g4 c0 c1 c2 c3 c4 ck
        have g0 := HX3.out.c0
        have g3 := HX3.out.c3
        have g4 := HX3.out.c4
        clear hb3
        go_wp2_with fail
        refine (HIt.out w3 HB3.out).mono ?_
        rintro e w4 ⟨rfl, hb4⟩
        have HB4 := Hid.mk (HB3.out.trans (hb4.mono HB3.out.size))
        clear hb4
        go_wp2_with fail
        go_roundw
        case rel => exact ⟨k + 1, _, hlt, rfl, by go_num, HFin, HB4⟩
        case measure => simp [intOf]; omega
      · have hkp : (0 : Int) < (k : Int) := by omega
        have hS1 : (a ++ ⟨#[44]⟩).data.toList = joinR g k ++ sepW 123 k := by
          rw [show (a ++ ByteArray.mk #[44]).data.toList = a.data.toList ++ [44] by simp, HA.out]; unfold accW sepW; rw [if_neg hk0, if_neg hk0]
        have hz1 := bsz hS1
        have hz0 := bsz HA.out
        simp only [List.length_append, sepW_len] at hz1
        have hp0 : ¬ 9223372036854775807 < a.size + 1 := by rw [ByteArray.size_append] at hz1; omega
        have hp1 : ¬ 9223372036854775807 < (a ++ ⟨#[44]⟩).size + ls.size := by omega
        have hz2 : (a ++ ⟨#[44]⟩ ++ ls).size = (a ++ ⟨#[44]⟩).size + ls.size := by rw [ByteArray.size_append]
        have hp3 : ¬ 9223372036854775807 < (a ++ ⟨#[44]⟩ ++ ls).size + qs.size := by omega
        have hz3 : (a ++ ⟨#[44]⟩ ++ ls ++ qs).size = (a ++ ⟨#[44]⟩ ++ ls).size + qs.size := by rw [ByteArray.size_append]
        have hp4 : ¬ 9223372036854775807 < (a ++ ⟨#[44]⟩ ++ ls ++ qs).size + 1 := by omega
        have hz4 : (a ++ ⟨#[44]⟩ ++ ls ++ qs ++ ⟨#[58]⟩).size = (a ++ ⟨#[44]⟩ ++ ls ++ qs).size + 1 := by rw [ByteArray.size_append]; rfl
        have hp5 : ¬ 9223372036854775807 < (a ++ ⟨#[44]⟩ ++ ls ++ qs ++ ⟨#[58]⟩).size + 1 := by omega
        have hz5 : (a ++ ⟨#[44]⟩ ++ ls ++ qs ++ ⟨#[58]⟩ ++ ⟨#[32]⟩).size = (a ++ ⟨#[44]⟩ ++ ls ++ qs ++ ⟨#[58]⟩).size + 1 := by rw [ByteArray.size_append]; rfl
        have hp6 : ¬ 9223372036854775807 < (a ++ ⟨#[44]⟩ ++ ls ++ qs ++ ⟨#[58]⟩ ++ ⟨#[32]⟩).size + ts_.size := by omega
        have hz1e : (a ++ ByteArray.mk #[44]).size = a.size + 1 := by rw [ByteArray.size_append]; rfl
        have hp1e : ¬ 9223372036854775807 < a.size + 1 + ls.size := by omega
        have hp3e : ¬ 9223372036854775807 < a.size + 1 + ls.size + qs.size := by omega
        have hp4e : ¬ 9223372036854775807 < a.size + 1 + ls.size + qs.size + 1 := by omega
        have hp5e : ¬ 9223372036854775807 < a.size + 1 + ls.size + qs.size + 1 + 1 := by omega
        have hp6e : ¬ 9223372036854775807 < a.size + 1 + ls.size + qs.size + 1 + 1 + ts_.size := by omega
        have HFin : Hid ((a ++ ⟨#[44]⟩ ++ ls ++ qs ++ ⟨#[58]⟩ ++ ⟨#[32]⟩ ++ ts_).data.toList = accW 123 g (k + 1)) := by
          show _ = _
          have e1 : (a ++ ⟨#[44]⟩ ++ ls ++ qs ++ ⟨#[58]⟩ ++ ⟨#[32]⟩ ++ ts_).data.toList = (a ++ ⟨#[44]⟩).data.toList ++ ls.data.toList ++ qs.data.toList ++ [58] ++ [32] ++ ts_.data.toList := by simp
          rw [e1, hS1, hlsl, htsl, hqsl]
          unfold accW
          rw [if_neg (by omega)]
          simp only [joinR, hgk, clW, List.append_assoc, List.cons_append, List.nil_append, List.append_nil]
        have HQu : Hid (∀ u, Calls Tryz.prog 94 #[.string key] u fun e w' => e = .returned (.string qs) ∧ Below u.heap.size u w') := fun u => by rw [hqs]; exact rq_wQ key u hksz1 hko1
        clear hz1e
        clear hlz htz hit hqz hqs
        clear hS1 hz1 hz0 hz2 hz3 hz4 hz5 hlsl htsl hqsl hgk hjk
        go_wp2_with fail
        refine (HLn.out _).mono ?_
        rintro e w2 ⟨rfl, hb2⟩
        have HX2 := Hid.mk (HX.out.keep hb2)
        have HB2 := Hid.mk (HB.out.trans (hb2.mono HB.out.size))
        have g0 := HX2.out.c0
        have g3 := HX2.out.c3
        have g4 := HX2.out.c4
        obtain ⟨c0, c1, c2, c3, c4⟩ := HCell.out _ hb2
        have ck := HKey.out _ hb2
        clear hb2
        go_wp2_with fail
        refine (HQu.out _).mono ?_
        rintro e w3 ⟨rfl, hb3⟩
        have HX3 := Hid.mk (HX2.out.keep hb3)
        have HB3 := Hid.mk (HB2.out.trans (hb3.mono HB2.out.size))
        have d0 := (hb3.cell (p := ⟨_, _, _⟩) (World.block_lt_of_cell? _ _ c0)).trans c0
        have d1 := (hb3.cell (p := ⟨_, _, _⟩) (World.block_lt_of_cell? _ _ c1)).trans c1
        have d2 := (hb3.cell (p := ⟨_, _, _⟩) (World.block_lt_of_cell? _ _ c2)).trans c2
        have d3 := (hb3.cell (p := ⟨_, _, _⟩) (World.block_lt_of_cell? _ _ c3)).trans c3
        have d4 := (hb3.cell (p := ⟨_, _, _⟩) (World.block_lt_of_cell? _ _ c4)).trans c4
        clear g0 g3 g4 c0 c1 c2 c3 c4 ck
        have g0 := HX3.out.c0
        have g3 := HX3.out.c3
        have g4 := HX3.out.c4
        clear hb3
        go_wp2_with fail
        refine (HIt.out w3 HB3.out).mono ?_
        rintro e w4 ⟨rfl, hb4⟩
        have HB4 := Hid.mk (HB3.out.trans (hb4.mono HB3.out.size))
        clear hb4
        go_wp2_with fail
        go_roundw
        case rel => exact ⟨k + 1, _, hlt, rfl, by go_num, HFin, HB4⟩
        case measure => simp [intOf]; omega
    · have hl1 : ¬ (k : Int) < (N : Int) := by omega
      obtain rfl : k = N := by omega
      have HA0 := HA.out
      by_cases h0 : k = 0
      · subst h0
        have hnn : ¬ (0 : Int) < ((0 : Nat) : Int) := by omega
        have haz := bsz HA0
        have hacc : accW 123 g 0 = [123] := rfl
        rw [hacc] at haz HA0
        have hp1 : ¬ 9223372036854775807 < a.size + 1 := by rw [haz]; decide
        have HFin : Hid (a ++ ⟨#[125]⟩ = ⟨(rowW 123 125 (lnW (some sp) (d + 1)) (lnW (some sp) d) (fun i => wQ (keys.getD i .empty).data.toList ++ clW (some sp)) it 0).toArray⟩) := by
          show _ = _
          rw [bmk HA0]; rfl
        clear HA0 haz hrow hg hacc hlen hit
        go_wp2_with fail
        go_ret
        exact ⟨by rw [HFin.out]; rfl, HX.out.below⟩
      · have hnn : (0 : Int) < (k : Int) := by omega
        have hrl := hrow h0
        have hacc : accW 123 g k = joinR g k := by unfold accW; rw [if_neg h0]
        rw [hacc] at HA0
        have haz := bsz HA0
        obtain ⟨ls, hls⟩ : ∃ ls : ByteArray, ls = ⟨(lnW (some sp) d).toArray⟩ := ⟨_, rfl⟩
        have hlsl : ls.data.toList = lnW (some sp) d := by rw [hls]
        have hlz := bsz hlsl
        have HLn : Hid (∀ u, Calls Tryz.prog 93 #[.int .i64 (d : Int), .int .i64 (sp : Int)] u fun e w' => e = .returned (.string ls) ∧ Below u.heap.size u w') := fun u => by
          have h1 := w_rline (some sp) d u hst (by omega)
          rw [← hls] at h1
          exact h1
        have hp1 : ¬ 9223372036854775807 < a.size + ls.size := by omega
        have hp2 : ¬ 9223372036854775807 < (a ++ ls).size + 1 := by rw [ByteArray.size_append]; omega
        have hp2e : ¬ 9223372036854775807 < a.size + ls.size + 1 := by omega
        have HFin : Hid (a ++ ls ++ ⟨#[125]⟩ = ⟨(rowW 123 125 (lnW (some sp) (d + 1)) (lnW (some sp) d) (fun i => wQ (keys.getD i .empty).data.toList ++ clW (some sp)) it k).toArray⟩) := by
          show _ = _
          refine bmk ?_
          unfold rowW
          rw [if_neg h0, ← hg]
          simp [HA0, hlsl]
        clear HA0 haz hrow hg hacc hlen hit hls hlsl hlz hrl
        go_wp2_with fail
        refine (HLn.out _).mono ?_
        rintro e w2 ⟨rfl, hb2⟩
        have HB2 := Hid.mk (HX.out.keep hb2).below
        clear hb2
        go_wp2_with fail
        go_ret
        exact ⟨by rw [HFin.out]; rfl, HB2.out⟩
end Go.Proofs.YtfjmgccbpiolhaaGreatDoor
namespace Go.Proofs.YtfjmgccbpiolhaaGreatDoor
open Go.RowKit
set_option linter.unusedVariables false
set_option linter.unusedSimpArgs false

set_option maxRecDepth 100000 in
set_option maxHeartbeats 800000 in
theorem rw_flat (kd : Int) (hkd : kd < 5) (nm tx : ByteArray) (io ko : Value) (r : ByteArray) (di si : Int) (w : World) (hw : ∀ u, Calls Tryz.prog 92 #[.agg #[.int .i64 kd, .string nm, .string tx, io, ko]] u fun e w' => e = .returned (.string r) ∧ Below u.heap.size u w') :
    Calls Tryz.prog 46 #[.agg #[.int .i64 kd, .string nm, .string tx, io, ko], .int .i64 di, .int .i64 si] w fun e w' => e = .returned (.string r) ∧ Below w.heap.size w w' := by
  have HX := Hid.mk (vbx_new w (.int .i64 kd) (.string nm) (.string tx) io ko)
  obtain ⟨W0, hW0⟩ : ∃ W0, W0 = w.alloc (.cells #[.int .i64 kd, .string nm, .string tx, io, ko] 49) := ⟨_, rfl⟩
  rw [← hW0] at HX
  have HW0 := Hid.mk hW0
  have c0 := HX.out.c0
  have c1 := HX.out.c1
  have c2 := HX.out.c2
  have c3 := HX.out.c3
  have c4 := HX.out.c4
  have HH := Hid.mk hw
  clear hW0 hw
  go_enter Tryz.func46, Tryz.ntmps46
  go_wp2_with fail
  rw [← HW0.out]
  refine (HH.out _).mono ?_
  rintro e w1 ⟨rfl, hb⟩
  have HB := Hid.mk (HX.out.keep hb).below
  clear hb c0 c1 c2 c3 c4
  go_wp2_with fail
  go_ret
  exact ⟨rfl, HB.out⟩

set_option maxRecDepth 100000 in
set_option maxHeartbeats 800000 in
theorem w_write_p : ∀ h, RwOk6 none h
  | 0 => by intro T v w d hI; exact hI.elim
  | h + 1 => by
    intro T v w d hI hf hsh hd hlen
    have ih := w_write_p h
    obtain ⟨io, icap, ko, kcap, rfl, a1, a2, a3, a4, a5, a6, a7, hk, hi⟩ := hI.open
    obtain ⟨s1, s2, s3, s4⟩ := hsh
    have hge : ∀ (t : VT), t ∈ T.items → d + 1 + szN h t ≤ 1099511627776 := by
      intro t ht
      obtain ⟨i, hil, rfl⟩ := List.getElem_of_mem ht
      have := szN_item (h := h) hil
      omega
    have hd1 : d + 1 ≤ 1099511627776 := by
      have : 1 ≤ szN (h + 1) T := by show 1 ≤ 1 + T.keys.length + _; omega
      omega
    have hit : ∀ i, (hi : i < T.items.length) → (T.items[i]?.map (wrV none h (d + 1))).getD [] = wrV none h (d + 1) T.items[i] := by
      intro i hil
      rw [List.getElem?_eq_getElem hil]; rfl
    rcases form_kind hf with ⟨hk0, hk5⟩ | hk5 | hk6
    · refine rw_flat T.kind hk5 _ _ _ _ ⟨(wrV none (h + 1) d T).toArray⟩ _ _ w (fun u => ?_)
      by_cases e0 : T.kind = 0
      · have hw : wrV none (h + 1) d T = [110, 117, 108, 108] := by unfold wrV; rw [if_pos e0]
        rw [hw, e0]; exact w_rword0 _ _ _ _ u
      by_cases e1 : T.kind = 1
      · have hw : wrV none (h + 1) d T = [102, 97, 108, 115, 101] := by unfold wrV; rw [if_neg e0, if_pos e1]
        rw [hw, e1]; exact w_rword1 _ _ _ _ u
      by_cases e2 : T.kind = 2
      · have hw : wrV none (h + 1) d T = [116, 114, 117, 101] := by unfold wrV; rw [if_neg e0, if_neg e1, if_pos e2]
        rw [hw, e2]; exact w_rword2 _ _ _ _ u
      by_cases e3 : T.kind = 3
      · have hw : wrV none (h + 1) d T = T.num.data.toList := by unfold wrV; rw [if_neg e0, if_neg e1, if_neg e2, if_pos e3]
        rw [hw, e3]; exact w_rword3 _ _ _ _ u
      · have e4 : T.kind = 4 := by omega
        have hw : wrV none (h + 1) d T = wQ T.text.data.toList := by unfold wrV; rw [if_neg e0, if_neg e1, if_neg e2, if_neg e3, if_pos e4]
        have ho := form_text hf e4
        rw [hw, e4]; exact w_rword4 _ _ _ _ u (by omega) ho
    · have hfi : ∀ t ∈ T.items, formN h t = true := by
        intro t ht
        obtain ⟨i, hil, rfl⟩ := List.getElem_of_mem ht
        exact form_items hf (.inl hk5) i hil
      have hnm : nmV T none = fun _ => [] := by funext i; unfold nmV; rw [if_neg (by omega)]
      have hw : wrV none (h + 1) d T = rowW 91 93 (lnW none (d + 1)) (lnW none d) (fun _ => []) (fun i => (T.items[i]?.map (wrV none h (d + 1))).getD []) T.items.length := by
        unfold wrV
        rw [if_neg (by omega), if_neg (by omega), if_neg (by omega), if_neg (by omega), if_neg (by omega), if_neg (by omega), if_neg (by omega), hnm]
      rw [hw] at hlen ⊢
      rw [hk5]
      exact rw_5p h ih _ _ io _ icap ko _ kcap w T.items rfl hi a5 a3 hfi s4 d hd1 hge _ hit hlen
    · have hfi : ∀ t ∈ T.items, formN h t = true := by
        intro t ht
        obtain ⟨i, hil, rfl⟩ := List.getElem_of_mem ht
        exact form_items hf (.inr hk6) i hil
      have hKN : T.keys.length = T.items.length := (form_empty hf).2.2.2 hk6
      have hnm : nmV T none = fun i => wQ (T.keys.getD i .empty).data.toList ++ clW none := by funext i; unfold nmV; rw [if_pos hk6]
      have hw : wrV none (h + 1) d T = rowW 123 125 (lnW none (d + 1)) (lnW none d) (fun i => wQ (T.keys.getD i .empty).data.toList ++ clW none) (fun i => (T.items[i]?.map (wrV none h (d + 1))).getD []) T.items.length := by
        unfold wrV
        rw [if_neg (by omega), if_neg (by omega), if_neg (by omega), if_neg (by omega), if_neg (by omega), if_pos hk6, if_pos hk6, hnm]
      rw [hw] at hlen ⊢
      have hko := form_keys hf hk6
      rw [hk6, hKN]
      rw [hKN] at a6
      exact rw_6p h ih _ _ io _ icap ko kcap w T.keys hKN a6 hk (fun k hk2 => by have := s3 k hk2; omega) hko T.items rfl hi a5 a3 hfi s4 d hd1 hge _ hit hlen

set_option maxRecDepth 100000 in
set_option maxHeartbeats 800000 in
theorem w_write_l (sp : Nat) (hsp : sp ≤ 8) : ∀ h, RwOk6 (some sp) h
  | 0 => by intro T v w d hI; exact hI.elim
  | h + 1 => by
    intro T v w d hI hf hsh hd hlen
    have ih := w_write_l sp hsp h
    obtain ⟨io, icap, ko, kcap, rfl, a1, a2, a3, a4, a5, a6, a7, hk, hi⟩ := hI.open
    obtain ⟨s1, s2, s3, s4⟩ := hsh
    have hge : ∀ (t : VT), t ∈ T.items → d + 1 + szN h t ≤ 1099511627776 := by
      intro t ht
      obtain ⟨i, hil, rfl⟩ := List.getElem_of_mem ht
      have := szN_item (h := h) hil
      omega
    have hd1 : d + 1 ≤ 1099511627776 := by
      have : 1 ≤ szN (h + 1) T := by show 1 ≤ 1 + T.keys.length + _; omega
      omega
    have hit : ∀ i, (hi : i < T.items.length) → (T.items[i]?.map (wrV (some sp) h (d + 1))).getD [] = wrV (some sp) h (d + 1) T.items[i] := by
      intro i hil
      rw [List.getElem?_eq_getElem hil]; rfl
    rcases form_kind hf with ⟨hk0, hk5⟩ | hk5 | hk6
    · refine rw_flat T.kind hk5 _ _ _ _ ⟨(wrV (some sp) (h + 1) d T).toArray⟩ _ _ w (fun u => ?_)
      by_cases e0 : T.kind = 0
      · have hw : wrV (some sp) (h + 1) d T = [110, 117, 108, 108] := by unfold wrV; rw [if_pos e0]
        rw [hw, e0]; exact w_rword0 _ _ _ _ u
      by_cases e1 : T.kind = 1
      · have hw : wrV (some sp) (h + 1) d T = [102, 97, 108, 115, 101] := by unfold wrV; rw [if_neg e0, if_pos e1]
        rw [hw, e1]; exact w_rword1 _ _ _ _ u
      by_cases e2 : T.kind = 2
      · have hw : wrV (some sp) (h + 1) d T = [116, 114, 117, 101] := by unfold wrV; rw [if_neg e0, if_neg e1, if_pos e2]
        rw [hw, e2]; exact w_rword2 _ _ _ _ u
      by_cases e3 : T.kind = 3
      · have hw : wrV (some sp) (h + 1) d T = T.num.data.toList := by unfold wrV; rw [if_neg e0, if_neg e1, if_neg e2, if_pos e3]
        rw [hw, e3]; exact w_rword3 _ _ _ _ u
      · have e4 : T.kind = 4 := by omega
        have hw : wrV (some sp) (h + 1) d T = wQ T.text.data.toList := by unfold wrV; rw [if_neg e0, if_neg e1, if_neg e2, if_neg e3, if_pos e4]
        have ho := form_text hf e4
        rw [hw, e4]; exact w_rword4 _ _ _ _ u (by omega) ho
    · have hfi : ∀ t ∈ T.items, formN h t = true := by
        intro t ht
        obtain ⟨i, hil, rfl⟩ := List.getElem_of_mem ht
        exact form_items hf (.inl hk5) i hil
      have hnm : nmV T (some sp) = fun _ => [] := by funext i; unfold nmV; rw [if_neg (by omega)]
      have hw : wrV (some sp) (h + 1) d T = rowW 91 93 (lnW (some sp) (d + 1)) (lnW (some sp) d) (fun _ => []) (fun i => (T.items[i]?.map (wrV (some sp) h (d + 1))).getD []) T.items.length := by
        unfold wrV
        rw [if_neg (by omega), if_neg (by omega), if_neg (by omega), if_neg (by omega), if_neg (by omega), if_neg (by omega), if_neg (by omega), hnm]
      rw [hw] at hlen ⊢
      rw [hk5]
      exact rw_5l h sp hsp ih _ _ io _ icap ko _ kcap w T.items rfl hi a5 a3 hfi s4 d hd1 hge _ hit hlen
    · have hfi : ∀ t ∈ T.items, formN h t = true := by
        intro t ht
        obtain ⟨i, hil, rfl⟩ := List.getElem_of_mem ht
        exact form_items hf (.inr hk6) i hil
      have hKN : T.keys.length = T.items.length := (form_empty hf).2.2.2 hk6
      have hnm : nmV T (some sp) = fun i => wQ (T.keys.getD i .empty).data.toList ++ clW (some sp) := by funext i; unfold nmV; rw [if_pos hk6]
      have hw : wrV (some sp) (h + 1) d T = rowW 123 125 (lnW (some sp) (d + 1)) (lnW (some sp) d) (fun i => wQ (T.keys.getD i .empty).data.toList ++ clW (some sp)) (fun i => (T.items[i]?.map (wrV (some sp) h (d + 1))).getD []) T.items.length := by
        unfold wrV
        rw [if_neg (by omega), if_neg (by omega), if_neg (by omega), if_neg (by omega), if_neg (by omega), if_pos hk6, if_pos hk6, hnm]
      rw [hw] at hlen ⊢
      have hko := form_keys hf hk6
      rw [hk6, hKN]
      rw [hKN] at a6
      exact rw_6l h sp hsp ih _ _ io _ icap ko kcap w T.keys hKN a6 hk (fun k hk2 => by have := s3 k hk2; omega) hko T.items rfl hi a5 a3 hfi s4 d hd1 hge _ hit hlen

set_option maxRecDepth 100000 in
set_option maxHeartbeats 1600000 in
theorem w_rText (h : Nat) (T : VT) (w : World) (kd : Int) (nm tx : ByteArray) (io : Option Addr) (N icap : Nat) (ko : Option Addr) (K kcap : Nat) (hI : InH w h T (.agg #[.int .i64 kd, .string nm, .string tx, .slice io N icap, .slice ko K kcap])) (hsh : ShV h T) (hsz : szN h T ≤ 20000) :
    Calls Tryz.prog 14 #[(.agg #[.int .i64 kd, .string nm, .string tx, .slice io N icap, .slice ko K kcap])] w fun e w' => e = .returned (.tuple #[.string ⟨(if formN h T = true then wrV none h 0 T else []).toArray⟩, .int .i64 (if formN h T = true then 0 else 1)]) ∧ Below w.heap.size w w' := by
  have HX := Hid.mk (vbx_new w (.int .i64 kd) (.string nm) (.string tx) (.slice io N icap) (.slice ko K kcap))
  obtain ⟨W0, hW0⟩ : ∃ W0, W0 = w.alloc (.cells #[.int .i64 kd, .string nm, .string tx, .slice io N icap, .slice ko K kcap] 49) := ⟨_, rfl⟩
  rw [← hW0] at HX
  have b0 := HX.out.c0
  have b1 := HX.out.c1
  have b2 := HX.out.c2
  have b3 := HX.out.c3
  have b4 := HX.out.c4
  have HF := Hid.mk (w_rFormed h T _ W0 (hI.keep HX.out.below))
  have HW0 := Hid.mk hW0
  cases hf : formN h T with
  | false =>
    rw [hf] at HF
    simp only [Bool.false_eq_true, if_false]
    clear hW0 hf hI hsh hsz
    go_enter Tryz.func14, Tryz.ntmps14
    go_wp2_with fail
    rw [← HW0.out]
    refine HF.out.mono ?_
    rintro e w1 ⟨rfl, hb⟩
    have HB := Hid.mk (HX.out.keep hb).below
    clear hb b0 b1 b2 b3 b4
    go_wp2_with fail
    go_ret2
    exact ⟨rfl, HB.out⟩
  | true =>
    rw [hf] at HF
    simp only [if_true]
    have hlen := wrV_len none (fun s e => by cases e) h 0 T hf hsh (by omega)
    have HWr : Hid (∀ u, InH u h T (.agg #[.int .i64 kd, .string nm, .string tx, .slice io N icap, .slice ko K kcap]) → Calls Tryz.prog 46 #[(.agg #[.int .i64 kd, .string nm, .string tx, .slice io N icap, .slice ko K kcap]), .int .i64 0, .int .i64 (-1)] u fun e w' => e = .returned (.string ⟨(wrV none h 0 T).toArray⟩) ∧ Below u.heap.size u w') := fun u hu => w_write_p h T _ u 0 hu hf hsh (by omega) (by omega)
    have HII : Hid (InH w h T (.agg #[.int .i64 kd, .string nm, .string tx, .slice io N icap, .slice ko K kcap])) := hI
    clear hW0 hI hsh hsz hf hlen
    go_enter Tryz.func14, Tryz.ntmps14
    go_wp2_with fail
    rw [← HW0.out]
    refine HF.out.mono ?_
    rintro e w1 ⟨rfl, hb⟩
    have HX1 := Hid.mk (HX.out.keep hb)
    clear hb b0 b1 b2 b3 b4
    have b0 := HX1.out.c0
    have b1 := HX1.out.c1
    have b2 := HX1.out.c2
    have b3 := HX1.out.c3
    have b4 := HX1.out.c4
    have HC := Hid.mk (HWr.out w1 (HII.out.keep HX1.out.below))
    go_wp2_with fail
    refine HC.out.mono ?_
    rintro e w2 ⟨rfl, hb⟩
    have HB := Hid.mk (HX1.out.keep hb).below
    clear hb b0 b1 b2 b3 b4
    go_wp2_with fail
    go_ret2
    exact ⟨rfl, HB.out⟩

set_option maxRecDepth 100000 in
set_option maxHeartbeats 1600000 in
theorem w_rLaid (h : Nat) (T : VT) (w : World) (kd : Int) (nm tx : ByteArray) (io : Option Addr) (N icap : Nat) (ko : Option Addr) (K kcap : Nat) (sp : Nat) (hsp : sp ≤ 8) (hI : InH w h T (.agg #[.int .i64 kd, .string nm, .string tx, .slice io N icap, .slice ko K kcap])) (hsh : ShV h T) (hsz : szN h T ≤ 20000) :
    Calls Tryz.prog 15 #[(.agg #[.int .i64 kd, .string nm, .string tx, .slice io N icap, .slice ko K kcap]), .int .i64 (sp : Int)] w fun e w' => e = .returned (.tuple #[.string ⟨(if formN h T = true then wrV (some sp) h 0 T else []).toArray⟩, .int .i64 (if formN h T = true then 0 else 1)]) ∧ Below w.heap.size w w' := by
  have HX := Hid.mk (vbx_new w (.int .i64 kd) (.string nm) (.string tx) (.slice io N icap) (.slice ko K kcap))
  obtain ⟨W0, hW0⟩ : ∃ W0, W0 = w.alloc (.cells #[.int .i64 kd, .string nm, .string tx, .slice io N icap, .slice ko K kcap] 49) := ⟨_, rfl⟩
  rw [← hW0] at HX
  have b0 := HX.out.c0
  have b1 := HX.out.c1
  have b2 := HX.out.c2
  have b3 := HX.out.c3
  have b4 := HX.out.c4
  have HF := Hid.mk (w_rFormed h T _ W0 (hI.keep HX.out.below))
  have HW0 := Hid.mk hW0
  have hq1 : ¬ (sp : Int) < 0 := by omega
  have hq2 : ¬ (8 : Int) < (sp : Int) := by omega
  have hq3 : (sp : Int) ≤ 8 := by omega
  cases hf : formN h T with
  | false =>
    rw [hf] at HF
    simp only [Bool.false_eq_true, if_false]
    clear hW0 hf hI hsh hsz
    go_enter Tryz.func15, Tryz.ntmps15
    go_wp2_with fail
    rw [← HW0.out]
    refine HF.out.mono ?_
    rintro e w1 ⟨rfl, hb⟩
    have HB := Hid.mk (HX.out.keep hb).below
    clear hb b0 b1 b2 b3 b4
    go_wp2_with fail
    go_ret2
    exact ⟨rfl, HB.out⟩
  | true =>
    rw [hf] at HF
    simp only [if_true]
    have hlen := wrV_len (some sp) (fun s e => by cases e; exact hsp) h 0 T hf hsh (by omega)
    have HWr : Hid (∀ u, InH u h T (.agg #[.int .i64 kd, .string nm, .string tx, .slice io N icap, .slice ko K kcap]) → Calls Tryz.prog 46 #[(.agg #[.int .i64 kd, .string nm, .string tx, .slice io N icap, .slice ko K kcap]), .int .i64 0, .int .i64 (sp : Int)] u fun e w' => e = .returned (.string ⟨(wrV (some sp) h 0 T).toArray⟩) ∧ Below u.heap.size u w') := fun u hu => w_write_l sp hsp h T _ u 0 hu hf hsh (by omega) (by omega)
    have HII : Hid (InH w h T (.agg #[.int .i64 kd, .string nm, .string tx, .slice io N icap, .slice ko K kcap])) := hI
    clear hW0 hI hsh hsz hf hlen
    go_enter Tryz.func15, Tryz.ntmps15
    go_wp2_with fail
    rw [← HW0.out]
    refine HF.out.mono ?_
    rintro e w1 ⟨rfl, hb⟩
    have HX1 := Hid.mk (HX.out.keep hb)
    clear hb b0 b1 b2 b3 b4
    have b0 := HX1.out.c0
    have b1 := HX1.out.c1
    have b2 := HX1.out.c2
    have b3 := HX1.out.c3
    have b4 := HX1.out.c4
    have HC := Hid.mk (HWr.out w1 (HII.out.keep HX1.out.below))
    go_wp2_with fail
    refine HC.out.mono ?_
    rintro e w2 ⟨rfl, hb⟩
    have HB := Hid.mk (HX1.out.keep hb).below
    clear hb b0 b1 b2 b3 b4
    go_wp2_with fail
    go_ret2
    exact ⟨rfl, HB.out⟩
end Go.Proofs.YtfjmgccbpiolhaaGreatDoor
namespace Go.Proofs.YtfjmgccbpiolhaaGreatDoor
open Go.RowKit
set_option linter.unusedVariables false
set_option linter.unusedSimpArgs false

def PtK (h : Nat) (T : VT) (most : Int) (w w' : World) (e : Ending) : Prop := ∃ p : Int, e = .returned (.int .i64 p) ∧ 0 ≤ p ∧ p ≤ most + (most + 1) * 140737488355329 ∧ ((p ≤ most → p = (szN h T : Int)) ∧ (most < p → most < (szN h T : Int))) ∧ Below w.heap.size w w'

set_option maxRecDepth 100000 in
set_option maxHeartbeats 3200000 in
theorem w_PartsK : ∀ (h : Nat) (T : VT) (v : Value) (w : World) (most : Int), InH w h T v → 0 ≤ most → most ≤ 20000 → Calls Tryz.prog 21 #[v, .int .i64 most] w fun e w' => PtK h T most w w' e := by
  intro h
  induction h with
  | zero => intro T v w most hI; exact hI.elim
  | succ h ih =>
    intro T v w most hI h0 h1
    obtain ⟨io, icap, ko, kcap, rfl, a1, a2, a3, a4, a5, a6, a7, hk, hi⟩ := hI.open
    have HX := Hid.mk (vbx_new w (.int .i64 T.kind) (.string T.num) (.string T.text) (.slice io T.items.length icap) (.slice ko T.keys.length kcap))
    have HI := Hid.mk (hi.keep HX.out.below)
    have HIh := Hid.mk ih
    have HSZ : Hid (szN (h + 1) T = 1 + T.keys.length + sumL (T.items.map (szN h))) := rfl
    unfold PtK
    generalize szN (h + 1) T = SZ at HSZ ⊢
    generalize T.kind = kd at *
    generalize T.num = nm at *
    generalize T.text = tx at *
    obtain ⟨ts, hts⟩ : ∃ ts, T.items = ts := ⟨_, rfl⟩
    rw [hts] at HI HX a3 a5 HSZ ⊢
    obtain ⟨N, hN⟩ : ∃ N, ts.length = N := ⟨_, rfl⟩
    have HNN := Hid.mk hN
    rw [hN] at HX HI a3 a5 ⊢
    obtain ⟨K, hK⟩ : ∃ K, T.keys.length = K := ⟨_, rfl⟩
    rw [hK] at HX HI a4 a6 HSZ ⊢
    clear hi hk hI ih a7 hts hN hK
    obtain ⟨W0, hW0⟩ : ∃ W0, W0 = w.alloc (.cells #[.int .i64 kd, .string nm, .string tx, .slice io N icap, .slice ko K kcap] 49) := ⟨_, rfl⟩
    go_enter Tryz.func21, Tryz.ntmps21
    go_wp2_with fail
    rw [← hW0] at HX HI ⊢
    clear hW0
    go_loopw [5, 6] (fun nn i wr => ∃ (n : Int) (k : Nat), 1 ≤ n ∧ n ≤ most + most * 140737488355329 + 1 ∧ k ≤ N ∧ nn = .int .i64 n ∧ i = .int .i64 (k : Int) ∧ Hid (Below W0.heap.size W0 wr) ∧ Hid ((n ≤ most → n = 1 + ((sumL ((ts.take k).map (szN h)) : Nat) : Int)) ∧ (most < n → most < 1 + ((sumL ((ts.take k).map (szN h)) : Nat) : Int)))) (fun _ i _ => N - (intOf i).toNat)
    case atStart => exact ⟨1, 0, by omega, by omega, Nat.zero_le _, rfl, rfl, Below.refl _ _, fun _ => by simp [sumL], fun hh => by simp [sumL]; omega⟩
    case round =>
      obtain ⟨n, k, hn0, hn1, hk, rfl, rfl, HB, HS⟩ := hrel
      have HXw := Hid.mk (HX.out.keep HB.out)
      have g3 := HXw.out.c3
      have g4 := HXw.out.c4
      by_cases hlt : k < N
      · have hl1 : (k : Int) < (N : Int) := by omega
        by_cases hm : n ≤ most
        · obtain ⟨b, off, hio, hbl, hrow⟩ := (HI.out.keep HB.out).row (by rw [HNN.out]; omega)
          subst hio
          have hkt : k < ts.length := by rw [HNN.out]; exact hlt
          obtain ⟨v0, v1, v2, v3, v4, ⟨c0, c1, c2, c3, c4⟩, ht⟩ := hrow k hkt
          have HC := Hid.mk (HIh.out _ _ wr (most - n) ht (by omega) (by omega))
          unfold PtK at HC
          have HU := Hid.mk (sum_take_up (szN h) hkt)
          clear ht hrow hbl
          go_wp2_with fail
          refine HC.out.mono ?_
          rintro e w2 ⟨p, rfl, hp0, hp1, hp2, hb2⟩
          have HB2 := Hid.mk (below_more HB.out hb2)
          have HS2 : Hid ((n + p ≤ most → n + p = 1 + ((sumL ((ts.take (k + 1)).map (szN h)) : Nat) : Int)) ∧ (most < n + p → most < 1 + ((sumL ((ts.take (k + 1)).map (szN h)) : Nat) : Int))) := by
            have e2 := HS.out.1 hm
            have e3 := HU.out
            refine ⟨fun hle => ?_, fun hle => ?_⟩
            · have e1 := hp2.1 (by omega)
              omega
            · have e1 := hp2.2 (by omega)
              omega
          have hpb : n + p ≤ most + most * 140737488355329 + 1 := by omega
          clear hb2 c0 c1 c2 c3 c4 HC g3 g4 hp2 HU hkt
          go_wp2_with fail
          go_roundw
          case rel => exact ⟨n + p, k + 1, by omega, hpb, hlt, by go_num, by go_num, HB2, HS2⟩
          case measure => simp [intOf]; omega
        · have hm1 : ¬ n ≤ most := hm
          have HF0 : Hid ((n + (K : Int) ≤ most → n + (K : Int) = (SZ : Int)) ∧ (most < n + (K : Int) → most < (SZ : Int))) := by
            refine ⟨fun hh => by omega, fun hh => ?_⟩
            have e1 := HS.out.2 (by omega)
            have e2 := sum_take_le (szN h) ts k
            have e3 := HSZ.out
            omega
          go_wp2_with fail
          go_ret
          exact ⟨n + (K : Int), by go_num, by omega, by omega, HF0.out, HXw.out.below⟩
      · have hl1 : ¬ (k : Int) < (N : Int) := by omega
        have HF : Hid ((n + (K : Int) ≤ most → n + (K : Int) = (SZ : Int)) ∧ (most < n + (K : Int) → most < (SZ : Int))) := by
          have e2 := HNN.out
          have hkN : k = ts.length := by omega
          have e3 := HSZ.out
          by_cases hm : n ≤ most
          · have e1 := HS.out.1 hm
            rw [hkN, List.take_length] at e1
            refine ⟨fun hh => ?_, fun hh => ?_⟩ <;> omega
          · have e1 := HS.out.2 (by omega)
            rw [hkN, List.take_length] at e1
            refine ⟨fun hh => ?_, fun hh => ?_⟩ <;> omega
        go_wp2_with fail
        go_ret
        exact ⟨n + (K : Int), by go_num, by omega, by omega, HF.out, HXw.out.below⟩

set_option maxRecDepth 100000 in
set_option maxHeartbeats 1600000 in
theorem w_Fit (h : Nat) (io : Option Addr) (N icap : Nat) (ts : List VT) (w : World) (hts : ts.length = N) (hI : IIn w h io ts) (hN : N ≤ icap) (hN2 : N ≤ 140737488355328) :
    Calls Tryz.prog 6 #[.slice io N icap] w fun e w' => e = .returned (.bool (decide (sumL (ts.map (szN h)) ≤ 20000))) ∧ Below w.heap.size w w' := by
  have HNN := Hid.mk hts
  have HI := Hid.mk hI
  obtain ⟨SM, hSM⟩ : ∃ SM, sumL (ts.map (szN h)) = SM := ⟨_, rfl⟩
  have HSM := Hid.mk hSM
  rw [hSM]
  clear hts hI hSM
  go_enter Tryz.func6, Tryz.ntmps6
  go_wp2_with fail
  go_loopw [3, 4] (fun nn i wr => ∃ (n : Int) (k : Nat), 0 ≤ n ∧ n ≤ 20000 ∧ k ≤ N ∧ nn = .int .i64 n ∧ i = .int .i64 (k : Int) ∧ Hid (Below w.heap.size w wr) ∧ Hid (n = ((sumL ((ts.take k).map (szN h)) : Nat) : Int))) (fun _ i _ => N - (intOf i).toNat)
  case atStart => exact ⟨0, 0, by omega, by omega, Nat.zero_le _, rfl, rfl, Below.refl _ _, by show _ = _; simp [sumL]⟩
  case round =>
    obtain ⟨n, k, hn0, hn1, hk, rfl, rfl, HB, HS⟩ := hrel
    by_cases hlt : k < N
    · have hl1 : (k : Int) < (N : Int) := by omega
      obtain ⟨b, off, hio, hbl, hrow⟩ := (HI.out.keep HB.out).row (by rw [HNN.out]; omega)
      subst hio
      have hkt : k < ts.length := by rw [HNN.out]; exact hlt
      obtain ⟨v0, v1, v2, v3, v4, ⟨c0, c1, c2, c3, c4⟩, ht⟩ := hrow k hkt
      have HC := Hid.mk (w_PartsK _ _ _ wr (20000 - n) ht (by omega) (by omega))
      unfold PtK at HC
      have HU := Hid.mk (sum_take_up (szN h) hkt)
      have hle := sum_take_le (szN h) ts (k + 1)
      have HLe := Hid.mk hle
      clear ht hrow hbl hle
      go_wp2_with fail
      refine HC.out.mono ?_
      rintro e w2 ⟨p, rfl, hp0, hp1, hp2, hb2⟩
      have HB2 := Hid.mk (HB.out.trans (hb2.mono HB.out.size))
      have HP2 := Hid.mk hp2
      clear hb2 c0 c1 c2 c3 c4 HC hp2
      by_cases hgt : n + p ≤ 20000
      · have hg1 : ¬ 20000 < n + p := by omega
        have HS2 : Hid (n + p = ((sumL ((ts.take (k + 1)).map (szN h)) : Nat) : Int)) := by
          have e1 := HP2.out.1 (by omega)
          have e2 := HS.out
          have e3 := HU.out
          show _ = _
          omega
        go_wp2_with fail
        go_roundw
        case rel => exact ⟨n + p, k + 1, by omega, by omega, hlt, by go_num, by go_num, HB2, HS2⟩
        case measure => simp [intOf]; omega
      · have hg1 : 20000 < n + p := by omega
        have HF : Hid (decide (SM ≤ 20000) = false) := by
          have e1 := HP2.out.2 (by omega)
          have e2 := HS.out
          have e3 := HU.out
          have e4 := HLe.out
          have e5 := HSM.out
          show _ = _
          rw [decide_eq_false_iff_not]
          omega
        go_wp2_with fail
        go_ret
        exact ⟨by rw [HF.out]; rfl, HB2.out⟩
    · have hl1 : ¬ (k : Int) < (N : Int) := by omega
      have HF : Hid (decide (SM ≤ 20000) = true) := by
        have e2 := HNN.out
        have hkN : k = ts.length := by omega
        have e3 := HS.out
        rw [hkN, List.take_length, HSM.out] at e3
        show _ = _
        rw [decide_eq_true_iff]
        omega
      go_wp2_with fail
      go_ret
      exact ⟨by rw [HF.out]; rfl, HB.out⟩

end Go.Proofs.YtfjmgccbpiolhaaGreatDoor
namespace Go.Proofs.YtfjmgccbpiolhaaGreatDoor
open Go.RowKit Go.Sort
set_option linter.unusedVariables false
set_option linter.unusedSimpArgs false

set_option maxRecDepth 100000 in
set_option maxHeartbeats 1600000 in
theorem w_TextB (h : Nat) (T : VT) (w : World) (kd : Int) (nm tx : ByteArray) (io : Option Addr) (N icap : Nat) (ko : Option Addr) (K kcap : Nat) (hI : InH w h T (.agg #[.int .i64 kd, .string nm, .string tx, .slice io N icap, .slice ko K kcap])) (hsh : ShV h T) (hsz : szN h T ≤ 1048576) (hwd : WordsAt w) :
    Calls Tryz.prog 8 #[(.agg #[.int .i64 kd, .string nm, .string tx, .slice io N icap, .slice ko K kcap])] w fun e w' => e = .returned (.tuple #[.string ⟨(if formN h T = true then wrV none h 0 T else []).toArray⟩, .int .i64 (if formN h T = true then 0 else 1)]) ∧ Below w.heap.size w w' := by
  have hmf : ∀ (fn : Fn) (first cap : Array Value) (w : World), (Instr.makeFunc fn first cap).run Tryz.prog w = .ok (.func fn first cap) w := fun _ _ _ _ => rfl
  have HX := Hid.mk (vbx_new w (.int .i64 kd) (.string nm) (.string tx) (.slice io N icap) (.slice ko K kcap))
  obtain ⟨W0, hW0⟩ : ∃ W0, W0 = w.alloc (.cells #[.int .i64 kd, .string nm, .string tx, .slice io N icap, .slice ko K kcap] 49) := ⟨_, rfl⟩
  rw [← hW0] at HX
  have b0 := HX.out.c0
  have b1 := HX.out.c1
  have b2 := HX.out.c2
  have b3 := HX.out.c3
  have b4 := HX.out.c4
  have HF := Hid.mk (w_vFormed h T _ W0 (hI.keep HX.out.below))
  have HW0 := Hid.mk hW0
  cases hf : formN h T with
  | false =>
    rw [hf] at HF
    simp only [Bool.false_eq_true, if_false]
    clear hW0 hf hI hsh hsz hwd
    go_enter Tryz.func8, Tryz.ntmps8
    go_wp2_with fail
    rw [← HW0.out]
    refine HF.out.mono ?_
    rintro e w1 ⟨rfl, hb⟩
    have HB := Hid.mk (HX.out.keep hb).below
    clear hb b0 b1 b2 b3 b4
    go_wp2_with fail
    go_ret2
    exact ⟨rfl, HB.out⟩
  | true =>
    rw [hf] at HF
    simp only [if_true]
    clear hW0
    go_enter Tryz.func8, Tryz.ntmps8
    go_wp2_with fail
    rw [← HW0.out]
    refine HF.out.mono ?_
    rintro e w1 ⟨rfl, hb⟩
    have HX1 := Hid.mk (HX.out.keep hb)
    clear hb b0 b1 b2 b3 b4
    have hlen := wrV_len none (fun s e => by cases e) h 0 T hf hsh (by omega)
    obtain ⟨W2, hW2⟩ : ∃ W2, W2 = (w1.alloc (.cells #[.pointer none, .slice none 0 0, .int .i64 0] 76)).alloc (.cells #[.func (.func 25) #[.pointer (some ⟨w1.heap.size, 0, none⟩)] #[], .bool false, .int .i64 0, .int .i64 0] 79) := ⟨_, rfl⟩
    have hb2 : Below w1.heap.size w1 W2 := by rw [hW2]; exact ((Below.refl _ _).alloc (Nat.le_refl _) _).alloc (by simp) _
    have HX2 := Hid.mk (HX1.out.keep hb2)
    have hz2 : W2.heap.size = w1.heap.size + 1 + 1 := by rw [hW2]; simp
    have hWr : WrAt W2 (w1.heap.size + 1) 25 w1.heap.size none 0 := by
      rw [hW2]
      have e := heap_alloc_new (w1.alloc (.cells #[.pointer none, .slice none 0 0, .int .i64 0] 76)) (.cells #[.func (.func 25) #[.pointer (some ⟨w1.heap.size, 0, none⟩)] #[], .bool false, .int .i64 0, .int .i64 0] 79)
      rw [World.size_alloc] at e
      exact e
    have hSh : Sheet w1.heap.size w1.heap.size W2 [] := by
      have e := sheet_new w1
      rw [hW2]
      exact (keep_ok w1.heap.size w1.heap.size).below e ((Below.refl _ _).alloc (Nat.le_refl _) _)
    have hI1 := hI.keep HX1.out.below
    have HV : Hid (Calls Tryz.prog 26 #[.pointer (some ⟨w1.heap.size + 1, 0, none⟩), (.agg #[.int .i64 kd, .string nm, .string tx, .slice io N icap, .slice ko K kcap])] W2 fun e w' => e = .returned (.tuple #[]) ∧ Sheet w1.heap.size w1.heap.size w' (wrV none h 0 T) ∧ Below w1.heap.size W2 w') := by
      refine (w_value (keep_ok w1.heap.size w1.heap.size) (w1.heap.size + 1) none w1 (Nat.le_refl _) (by omega) (by omega) (fun s e => by cases e) (hwd.keep HX1.out.below) h T _ W2 0 [] hI1 hf hsh hb2 hWr hSh (by omega) (by omega) (by omega) (by simp only [List.length_nil]; omega)).mono ?_
      rintro e w' ⟨he, h1, h2, h3⟩
      exact ⟨he, by simpa using h1, h2⟩
    have d0 := HX2.out.c0
    have d1 := HX2.out.c1
    have d2 := HX2.out.c2
    have d3 := HX2.out.c3
    have d4 := HX2.out.c4
    rw [hW2] at d0 d1 d2 d3 d4
    have HW2 := Hid.mk hW2
    have hbw := (HX1.out.below).trans (hb2.mono HX1.out.below.size)
    have HBW := Hid.mk hbw
    have HL1 := Hid.mk HX1.out.below.size
    clear hW2 hb2 hz2 hWr hSh hI1 hlen hsh hsz hI hf hwd hbw
    go_wp2_with fail
    rw [← HW2.out]
    refine HV.out.mono ?_
    rintro e w3 ⟨rfl, hS3, hb3⟩
    have HB3 := Hid.mk (HBW.out.trans (hb3.mono HL1.out))
    have HSt := Hid.mk (w_String w1.heap.size w1.heap.size _ w3 hS3)
    clear hS3 hb3 d0 d1 d2 d3 d4
    go_wp2_with fail
    refine HSt.out.mono ?_
    rintro e w4 ⟨rfl, hb4⟩
    have HB4 := Hid.mk (HB3.out.trans (hb4.mono HL1.out))
    clear hb4
    go_wp2_with fail
    go_ret2
    exact ⟨rfl, HB4.out⟩
theorem w_Text (h : Nat) (T : VT) (w : World) (kd : Int) (nm tx : ByteArray) (io : Option Addr) (N icap : Nat) (ko : Option Addr) (K kcap : Nat) (hI : InH w h T (.agg #[.int .i64 kd, .string nm, .string tx, .slice io N icap, .slice ko K kcap])) (hsh : ShV h T) (hsz : szN h T ≤ 20000) (hwd : WordsAt w) :
    Calls Tryz.prog 8 #[(.agg #[.int .i64 kd, .string nm, .string tx, .slice io N icap, .slice ko K kcap])] w fun e w' => e = .returned (.tuple #[.string ⟨(if formN h T = true then wrV none h 0 T else []).toArray⟩, .int .i64 (if formN h T = true then 0 else 1)]) ∧ Below w.heap.size w w' := w_TextB h T w kd nm tx io N icap ko K kcap hI hsh (Nat.le_trans hsz (by decide)) hwd
end Go.Proofs.YtfjmgccbpiolhaaGreatDoor
