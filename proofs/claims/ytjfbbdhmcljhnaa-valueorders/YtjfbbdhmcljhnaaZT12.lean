import Derived.Test.YtjfbbdhmcljhnaaZT11
namespace Go.Proofs.Ytjfbbdhmcljhnaa
open Go.RowKit Go.Maps Go.Sort Go.Shelf
set_option linter.unusedVariables false
set_option linter.unusedSimpArgs false

set_option maxRecDepth 100000 in
set_option maxHeartbeats 3200000 in
theorem w_Make_ok (h : Nat) (keys : List ByteArray) (ts : List VT) (K : Nat) (ko : Option Addr) (kcap : Nat) (io : Option Addr) (icap : Nat) (w : World) (hk : KIn w ko keys) (hi : IIn w h io ts) (hlk : keys.length = K) (hlt : ts.length = K) (hkc : K ≤ kcap) (hic : K ≤ icap) (hK : K ≤ 10001) (hs : ∀ k ∈ keys, k.size ≤ 140737488351232)
    (ho : oK keys K = true) (hf : ts.all (formN h) = true) (hsz : szN (h + 1) (mkT keys ts) ≤ 10001) :
    Calls Try.prog 28 #[.slice ko K kcap, .slice io K icap] w fun e w' => ∃ v, e = .returned (.tuple #[v, .int .i64 0]) ∧ Hid (InF w.heap.size w' (h + 1) (mkT keys ts) v ∧ Below w.heap.size w w') := by
  have HV : Hid (∀ u, Below w.heap.size w u → Calls Try.prog 34 #[.slice ko K kcap] u fun e w' => e = .returned (.bool true) ∧ Below u.heap.size u w') := fun u hu => by
    have := w_allValid ko K kcap keys u (hk.keep hu) hlk hkc (by omega) (fun k hk' => by have := hs k hk'; omega)
    rw [ho] at this; exact this
  have HF : Hid (∀ u, Below w.heap.size w u → Calls Try.prog 32 #[.slice io K icap] u fun e w' => e = .returned (.bool true) ∧ Below u.heap.size u w') := fun u hu => by
    have := w_allFormed h (w_vFormed h) io K icap ts u (hi.keep hu) hlt hic (by omega)
    rw [hf] at this; exact this
  have HL : Hid (∀ u, Below w.heap.size w u → Calls Try.prog 57 #[.slice ko K kcap, .slice io K icap] u fun e w' => e = .returned (.func (.func 72) #[] #[.pointer (some ⟨u.heap.size + 1 + 1, 0, none⟩), .pointer (some ⟨u.heap.size, 0, none⟩)]) ∧ LaSt u w' keys io K icap K) := fun u hu => w_latest ko K kcap keys io K icap u (hk.keep hu) hlk hkc (by omega) hs
  have HG : Hid (∀ u w4, Below w.heap.size w u → LaSt u w4 keys io K icap K → Calls Try.prog 51 #[.func (.func 72) #[] #[.pointer (some ⟨u.heap.size + 1 + 1, 0, none⟩), .pointer (some ⟨u.heap.size, 0, none⟩)]] w4 fun e w' => ∃ io ic ko kc, e = .returned (.agg #[.int .i64 6, .string ⟨#[]⟩, .string ⟨#[]⟩, .slice io (SK keys).length ic, .slice ko (SK keys).length kc]) ∧
      Hid (InH w' (h + 1) (mkT keys ts) (.agg #[.int .i64 6, .string ⟨#[]⟩, .string ⟨#[]⟩, .slice io (SK keys).length ic, .slice ko (SK keys).length kc])) ∧ Hid (Below w4.heap.size w4 w')) := fun u w4 hu hL => by
    have hL' : LaSt u w4 keys io ts.length icap keys.length := by rw [hlk, hlt]; exact hL
    exact gathered_latest h keys ts io icap w w4 hi (by rw [hlk, hlt]) (by rw [hlt]; exact hic) (by rw [hlk]; exact hK) hs (hu.trans (hL.below.mono hu.size)) u hu hL'
  have HT : Hid (∀ u v, InH u (h + 1) (mkT keys ts) v → Calls Try.prog 49 #[v] u fun e w' => ∃ v', e = .returned v' ∧ InF u.heap.size w' (h + 1) (mkT keys ts) v' ∧ Below u.heap.size u w') := fun u v hv => w_Twin (h + 1) _ _ u hv hsz
  have HB0 := Hid.mk (below1 w (.cells #[.int .i64 0, .string ⟨#[]⟩, .string ⟨#[]⟩, .slice none 0 0, .slice none 0 0] 25))
  have HR0 : Hid ((w.alloc (.cells #[.int .i64 0, .string ⟨#[]⟩, .string ⟨#[]⟩, .slice none 0 0, .slice none 0 0] 25)).heap[w.heap.size]? = some (.cells #[.int .i64 0, .string ⟨#[]⟩, .string ⟨#[]⟩, .slice none 0 0, .slice none 0 0] 25 (0, 0))) := heap_alloc_new w _
  generalize (SK keys).length = M at HG
  clear hk hi hlk hlt hs ho hf hsz
  go_enter Try.func28, Try.ntmps28
  go_wp2_with fail
  refine (HV.out _ HB0.out).mono ?_
  rintro e w2 ⟨rfl, hb2⟩
  have HB2 := Hid.mk (below_more HB0.out hb2)
  have HR2 := Hid.mk (heap_low hb2 (by simp) HR0.out)
  clear hb2 HB0 HR0
  go_wp2_with fail
  refine (HF.out _ HB2.out).mono ?_
  rintro e w3 ⟨rfl, hb3⟩
  have HB3 := Hid.mk (below_more HB2.out hb3)
  have HR3 := Hid.mk (heap_low hb3 (Array.getElem?_eq_some_iff.1 HR2.out).1 HR2.out)
  clear hb3 HB2 HR2
  go_wp2_with fail
  refine (HL.out _ HB3.out).mono ?_
  rintro e w4 ⟨rfl, hL4⟩
  have HR4 := Hid.mk (heap_low hL4.below (Array.getElem?_eq_some_iff.1 HR3.out).1 HR3.out)
  have HB4 := Hid.mk (below_more HB3.out hL4.below)
  have HC := Hid.mk (HG.out w3 w4 HB3.out hL4)
  clear hL4 HG HL HF HV
  go_wp2_with fail
  refine HC.out.mono ?_
  rintro e w5 ⟨gio, gic, gko, gkc, rfl, HI5, HB5'⟩
  have HR5 := Hid.mk (heap_low HB5'.out (Array.getElem?_eq_some_iff.1 HR4.out).1 HR4.out)
  have HB5 := Hid.mk (below_more HB4.out HB5'.out)
  go_wp2_with fail
  refine (HT.out w5 _ HI5.out).mono ?_
  rintro e w6 ⟨v', rfl, hF6, hb6⟩
  have HR6 := Hid.mk (heap_low hb6 (Array.getElem?_eq_some_iff.1 HR5.out).1 HR5.out)
  have HB6 := Hid.mk (below_more HB5.out hb6)
  have hlt5 := (Array.getElem?_eq_some_iff.1 HR5.out).1
  obtain ⟨yk, yn, yt, yio, yN, yic, yko, yK, ykc, rfl⟩ := hF6.shape
  have HF6 := Hid.mk hF6
  have r0 := cell_of_row _ _ 0 _ _ _ HR6.out
  have r1 := cell_of_row _ _ 1 _ _ _ HR6.out
  have r2 := cell_of_row _ _ 2 _ _ _ HR6.out
  have r3 := cell_of_row _ _ 3 _ _ _ HR6.out
  have r4 := cell_of_row _ _ 4 _ _ _ HR6.out
  have fr : ∀ j, w6.frozen? ⟨w.heap.size, j, none⟩ = false := fun j => frozen_row HR6.out
  obtain ⟨wz, hwz⟩ : ∃ wz, ((((w6.setCell ⟨w.heap.size, 0, none⟩ (.int .i64 yk)).setCell ⟨w.heap.size, 1, none⟩ (.string yn)).setCell ⟨w.heap.size, 2, none⟩ (.string yt)).setCell ⟨w.heap.size, 3, none⟩ (.slice yio yN yic)).setCell ⟨w.heap.size, 4, none⟩ (.slice yko yK ykc) = wz := ⟨_, rfl⟩
  obtain ⟨zb, zo, zs', zbl⟩ := set5 w6 (w.heap.size) _ _ _ _ _ _ _ _ _ _ _ HR6.out wz hwz.symm
  have z0 := cell_of_row _ _ 0 _ _ _ zb
  have z1 := cell_of_row _ _ 1 _ _ _ zb
  have z2 := cell_of_row _ _ 2 _ _ _ zb
  have z3 := cell_of_row _ _ 3 _ _ _ zb
  have z4 := cell_of_row _ _ 4 _ _ _ zb
  have FIN : Hid (InF w.heap.size wz (h + 1) (mkT keys ts) (.agg #[.int .i64 yk, .string yn, .string yt, .slice yio yN yic, .slice yko yK ykc]) ∧ Below w.heap.size w wz) :=
    ⟨InF.keepB (by rw [zs']; exact Nat.le_refl _) (fun b hb hl => zo b (by omega)) (by omega) HF6.out, HB6.out.trans (zbl _ (Nat.le_refl _))⟩
  clear zb zo zbl hF6 hb6 HC HT zs'
  go_wp2_with fail
  (try simp only [Exit.inBlock, Exit.then])
  refine bodyPost_ret (v := .tuple #[.agg #[.int .i64 yk, .string yn, .string yt, .slice yio yN yic, .slice yko yK ykc], .int .i64 0]) (by simp [results, Try.results28, go_sem, z0, z1, z2, z3, z4]) rfl ?_
  exact ⟨_, rfl, FIN⟩
end Go.Proofs.Ytjfbbdhmcljhnaa
