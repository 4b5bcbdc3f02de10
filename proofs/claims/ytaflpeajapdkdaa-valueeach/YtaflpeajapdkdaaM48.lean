import Derived.Test.YtaflpeajapdkdaaM46
import Derived.Sort.CutIn
import Derived.Test.YtaflpeajapdkdaaM47
namespace Go.Proofs.Ytaflpeajapdkdaa
open Go.RowKit Go.Shelf Go.Sort Go.Maps Go.WideMaps
set_option linter.unusedVariables false
set_option linter.unusedSimpArgs false

theorem RoR.keepB {lo h k : Nat} {v : Value} {c : Nat → Fin 5 → Value} {xs : List VT} {w w' : World} (r : RoR lo h k v c xs w) (hz : w.heap.size ≤ w'.heap.size) (hs : ∀ b, lo ≤ b → b < w.heap.size → w'.heap[b]? = w.heap[b]?) : RoR lo h k v c xs w' :=
  ⟨r.len, Nat.le_trans r.ll hz, own_keepV r.own (fun b hb hl => hs b (own_lowV r.own hb).1 hl), fun i hi => InD.keep hz (fun b h1 hl => hs b h1.1 hl) (fun b h1 _ => h1) (r.trees i hi)⟩
theorem own_downV {w : World} {B lo : Nat} {e : TypeId} {size : Nat} {v : Value} {n : Nat} {xs : List Value} (h : w.ownsRow B e size v n xs) (hl : lo ≤ B) : w.ownsRow lo e size v n xs := by
  refine ⟨h.1, h.2.imp id ?_⟩
  rintro ⟨g, cap, cur, e1, e2, e3⟩
  exact ⟨g, cap, cur, e1, Nat.le_trans hl e2, e3⟩
/-- a value whose own two lists are rows of one's own -/
def TopO (B : Nat) (w : World) (v : Value) : Prop := ∃ a0 a1 a2 io N ic ko K kc, v = .agg #[a0, a1, a2, .slice io N ic, .slice ko K kc] ∧ (∃ ys, w.ownsRow B 25 5 (.slice io N ic) N ys) ∧ ∃ ys, w.ownsRow B 9 1 (.slice ko K kc) K ys
/-- Roomy, and whose its answer's lists are -/
def RoTop (h : Nat) : Prop := ∀ (T : VT) (v : Value) (w : World), InH w h T v → szN h T ≤ 100000 → Calls Try.prog 7 #[v] w fun e w' => ∃ v', e = .returned v' ∧ Hid (InF w.heap.size w' h T v' ∧ Below w.heap.size w w' ∧ TopO w.heap.size w' v')

set_option maxRecDepth 100000 in
set_option maxHeartbeats 12800000 in
theorem w_rRoomy_step (h : Nat) (ih : RoOk h) : RoTop (h + 1) := fun T v w hI hsz => by
  obtain ⟨io, ic, ko, kc, rfl, a1, a2, a3, a4, a5, a6, a7, hk, hi⟩ := hI.open
  have hsz' : 1 + T.keys.length + sumL (T.items.map (szN h)) ≤ 100000 := hsz
  have hsI : ∀ x ∈ T.items, szN h x ≤ 100000 := fun x hx => by
    have := sumL_mem (List.mem_map.2 ⟨_, hx, rfl⟩ : szN h x ∈ T.items.map (szN h))
    omega
  have hN : T.items.length ≤ 100000 := by
    rcases h with _ | h
    · rcases Nat.eq_zero_or_pos T.items.length with h0 | h0
      · omega
      · obtain ⟨b, off, e, hb, hrow⟩ := hi.row h0
        obtain ⟨v0, v1, v2, v3, v4, _, ht⟩ := hrow 0 h0
        exact ht.elim
    · have h1 : ∀ l : List VT, l.length ≤ sumL (l.map (szN (h + 1))) := fun l => by
        induction l with
        | nil => exact Nat.zero_le _
        | cons x r ihr =>
          have : 1 ≤ szN (h + 1) x := by show 1 ≤ 1 + _ + _; omega
          show r.length + 1 ≤ szN (h + 1) x + _
          omega
      have := h1 T.items
      omega
  have HK : Hid (∀ u, Below w.heap.size w u → Calls Try.prog 21 #[.slice ko T.keys.length kc] u fun e w' => ∃ so sc, e = .returned (.slice so T.keys.length sc) ∧ Hid (Below u.heap.size u w' ∧ w'.ownsRow u.heap.size 9 1 (.slice so T.keys.length sc) T.keys.length (T.keys.map .string))) := fun u hu => w_rRoomyKeys ko _ kc T.keys u (hk.keep hu) rfl a6 (by omega)
  have HIt : Hid (∀ u, Below w.heap.size w u → Calls Try.prog 22 #[.slice io T.items.length ic] u fun e w' => ∃ so sc c, e = .returned (.slice so T.items.length sc) ∧ Hid (Below u.heap.size u w' ∧ RoR u.heap.size h T.items.length (.slice so T.items.length sc) c T.items w')) := fun u hu => w_rRoomyItems h ih io _ ic T.items u (hi.keep hu) rfl a5 hN hsI
  have HE : Hid (∀ (W : World) (a b : Nat) (so : Option Addr) (sc : Nat) (so2 : Option Addr) (sc2 : Nat) (c : Nat → Fin 5 → Value), W.ownsRow a 9 1 (.slice so T.keys.length sc) T.keys.length (T.keys.map .string) → RoR b h T.items.length (.slice so2 T.items.length sc2) c T.items W → w.heap.size ≤ a → w.heap.size ≤ b → InF w.heap.size W (h + 1) T (.agg #[.int .i64 T.kind, .string T.num, .string T.text, .slice so2 T.items.length sc2, .slice so T.keys.length sc])) := fun W a b so sc so2 sc2 c h1 h2 h3 h4 => roomy_in h1 h2 h3 h4 a1 a2 a3 a4 a7
  generalize T.keys.map Value.string = ks at HK HE
  generalize T.items = its at *
  generalize T.kind = kd at *
  generalize T.num = nm at *
  generalize T.text = tx at *
  generalize its.length = N at *
  generalize T.keys.length = K at *
  clear hI hsz a1 a2 a3 a4 a5 a6 a7 hk hi hsz' hsI hN
  go_enter Try.func7, Try.ntmps7
  go_upto_region 1 with fail
  obtain ⟨W2, hW2⟩ : ∃ W2, (w.alloc (.cells #[.int .i64 kd, .string nm, .string tx, .slice io N ic, .slice ko K kc] 25)).alloc (.cells #[.int .i64 0, .string ⟨#[]⟩, .string ⟨#[]⟩, .slice none 0 0, .slice none 0 0] 25) = W2 := ⟨_, rfl⟩
  have b1 : W2.heap[w.heap.size]? = some (.cells #[.int .i64 kd, .string nm, .string tx, .slice io N ic, .slice ko K kc] 25 (0, 0)) := by rw [← hW2, Below.heap_alloc _ _ _ (by simp), heap_alloc_new]
  have b2 : W2.heap[w.heap.size + 1]? = some (.cells #[.int .i64 0, .string ⟨#[]⟩, .string ⟨#[]⟩, .slice none 0 0, .slice none 0 0] 25 (0, 0)) := by rw [← hW2, show w.heap.size + 1 = (w.alloc (.cells #[.int .i64 kd, .string nm, .string tx, .slice io N ic, .slice ko K kc] 25)).heap.size from by simp, heap_alloc_new]
  have HS2 : Hid (W2.heap.size = w.heap.size + 2) := by show _ = _; rw [← hW2]; simp
  have hb0 : Below w.heap.size w W2 := by rw [← hW2]; exact below2 w _ _
  rw [hW2]
  have c0 := cell_of_row _ _ 0 _ _ _ b1
  have c1 := cell_of_row _ _ 1 _ _ _ b1
  have c2 := cell_of_row _ _ 2 _ _ _ b1
  have c3 := cell_of_row _ _ 3 _ _ _ b1
  have c4 := cell_of_row _ _ 4 _ _ _ b1
  obtain ⟨W3, hW3⟩ : ∃ W3, W2.alloc (.cells #[.int .i64 0, .string ⟨#[]⟩, .string ⟨#[]⟩, .slice none 0 0, .slice none 0 0] 25) = W3 := ⟨_, rfl⟩
  have b3 := heap_alloc_new W2 (.cells #[.int .i64 0, .string ⟨#[]⟩, .string ⟨#[]⟩, .slice none 0 0, .slice none 0 0] 25)
  rw [hW3] at b3
  have hb3 : Below W2.heap.size W2 W3 := by rw [← hW3]; exact below1 _ _
  have fr3 : ∀ j, W3.frozen? ⟨W2.heap.size, j, none⟩ = false := fun j => frozen_row b3
  have q0 := cell_of_row _ _ 0 _ _ _ b3
  have q1 := cell_of_row _ _ 1 _ _ _ b3
  have q2 := cell_of_row _ _ 2 _ _ _ b3
  have q3 := cell_of_row _ _ 3 _ _ _ b3
  have q4 := cell_of_row _ _ 4 _ _ _ b3
  obtain ⟨wz, hwz⟩ : ∃ wz, ((((W3.setCell ⟨W2.heap.size, 0, none⟩ (.int .i64 kd)).setCell ⟨W2.heap.size, 1, none⟩ (.string nm)).setCell ⟨W2.heap.size, 2, none⟩ (.string tx)).setCell ⟨W2.heap.size, 3, none⟩ (.slice none 0 0)).setCell ⟨W2.heap.size, 4, none⟩ (.slice none 0 0) = wz := ⟨_, rfl⟩
  obtain ⟨zb, zo, zs', zbl⟩ := set5 W3 W2.heap.size _ _ _ _ _ _ _ _ _ _ _ b3 wz hwz.symm
  have hbz : Below W2.heap.size W2 wz := hb3.trans (zbl _ (Nat.le_refl _))
  have HX1 := Hid.mk (heap_low hbz (Array.getElem?_eq_some_iff.1 b1).1 b1)
  have HR1 := Hid.mk (heap_low hbz (Array.getElem?_eq_some_iff.1 b2).1 b2)
  have HT1 := Hid.mk zb
  have HB1 := Hid.mk (below_more hb0 hbz)
  have d0 := (Hid.out HX1) |> cell_of_row _ _ 0 _ _ _
  have d1 := (Hid.out HX1) |> cell_of_row _ _ 1 _ _ _
  have d2 := (Hid.out HX1) |> cell_of_row _ _ 2 _ _ _
  have d3 := (Hid.out HX1) |> cell_of_row _ _ 3 _ _ _
  have d4 := (Hid.out HX1) |> cell_of_row _ _ 4 _ _ _
  clear zb zo zs' zbl hbz b1 b2 b3 hb3 hb0 hW2
  go_wp2_with fail
  refine (HK.out _ HB1.out).mono ?_
  rintro e w3 ⟨kso, ksc, rfl, HQ⟩
  have HKo := Hid.mk HQ.out.2
  have hb3 := HQ.out.1
  have HX2 := Hid.mk (heap_low hb3 (Array.getElem?_eq_some_iff.1 HX1.out).1 HX1.out)
  have HR2 := Hid.mk (heap_low hb3 (Array.getElem?_eq_some_iff.1 HR1.out).1 HR1.out)
  have HT2 := Hid.mk (heap_low hb3 (Array.getElem?_eq_some_iff.1 HT1.out).1 HT1.out)
  have HZ := Hid.mk (Array.getElem?_eq_some_iff.1 HT1.out).1
  have HB2 := Hid.mk (below_more HB1.out hb3)
  have fr4 : ∀ j, w3.frozen? ⟨W2.heap.size, j, none⟩ = false := fun j => frozen_row HT2.out
  have t4 := cell_of_row _ _ 4 _ _ _ HT2.out
  obtain ⟨w4, hw4⟩ : ∃ w4, w3.setCell ⟨W2.heap.size, 4, none⟩ (.slice kso K ksc) = w4 := ⟨_, rfl⟩
  have hT4 : w4.heap[W2.heap.size]? = some (.cells #[.int .i64 kd, .string nm, .string tx, .slice none 0 0, .slice kso K ksc] 25 (0, 0)) := by rw [← hw4]; exact setCell_box4 _ _ _ _ _ _ _ _ _ HT2.out
  have ho4 : ∀ b, b ≠ W2.heap.size → w4.heap[b]? = w3.heap[b]? := fun b hb => by rw [← hw4]; exact Below.heap_setCell _ _ _ _ hb
  have HX4 : Hid (w4.heap[w.heap.size]? = some (.cells #[.int .i64 kd, .string nm, .string tx, .slice io N ic, .slice ko K kc] 25 (0, 0))) := (ho4 _ (by have := HS2.out; omega)).trans HX2.out
  have HR4 : Hid (w4.heap[w.heap.size + 1]? = some (.cells #[.int .i64 0, .string ⟨#[]⟩, .string ⟨#[]⟩, .slice none 0 0, .slice none 0 0] 25 (0, 0))) := (ho4 _ (by have := HS2.out; omega)).trans HR2.out
  have HT4 := Hid.mk hT4
  have HB4 : Hid (Below w.heap.size w w4) := by rw [← hw4]; exact HB2.out.setCell (p := ⟨W2.heap.size, 4, none⟩) (by show _ ≤ W2.heap.size; have := HS2.out; omega) _
  have HK4 := Hid.mk (own_keepV HKo.out (fun b hb _ => ho4 b (fun e => by have h1 := (own_lowV HKo.out hb).1; have h2 := HZ.out; omega)))
  have HKb : Hid (∀ b, (Value.slice kso K ksc).ownBlock = some b → wz.heap.size ≤ b) := fun b hb => (own_lowV HKo.out hb).1
  clear HX2 HR2 HT2 HKo hb3 HQ HX1 HR1 HT1 HB1 HK hT4 ho4 hwz hW3 fr3 q0 q1 q2 q3 q4 d0 d1 d2 d3 d4 c0 c1 c2 c3 c4
  have d0 := cell_of_row _ _ 0 _ _ _ HX4.out
  have d1 := cell_of_row _ _ 1 _ _ _ HX4.out
  have d2 := cell_of_row _ _ 2 _ _ _ HX4.out
  have d3 := cell_of_row _ _ 3 _ _ _ HX4.out
  have d4 := cell_of_row _ _ 4 _ _ _ HX4.out
  go_wp2_with fail
  refine (HIt.out _ HB4.out).mono ?_
  rintro e w5 ⟨iso, isc, c, rfl, HQ⟩
  have HRo := Hid.mk HQ.out.2
  have hb5 := HQ.out.1
  have HR5 := Hid.mk (heap_low hb5 (Array.getElem?_eq_some_iff.1 HR4.out).1 HR4.out)
  have HT5 := Hid.mk (heap_low hb5 (Array.getElem?_eq_some_iff.1 HT4.out).1 HT4.out)
  have HZ4 := Hid.mk (Array.getElem?_eq_some_iff.1 HT4.out).1
  have HB5 := Hid.mk (below_more HB4.out hb5)
  have HK5 := Hid.mk (own_keepV HK4.out (fun b _ hl => hb5.block b hl))
  have fr5 : ∀ j, w5.frozen? ⟨W2.heap.size, j, none⟩ = false := fun j => frozen_row HT5.out
  have t3 := cell_of_row _ _ 3 _ _ _ HT5.out
  obtain ⟨w6, hw6⟩ : ∃ w6, w5.setCell ⟨W2.heap.size, 3, none⟩ (.slice iso N isc) = w6 := ⟨_, rfl⟩
  have ho6 : ∀ b, b ≠ W2.heap.size → w6.heap[b]? = w5.heap[b]? := fun b hb => by rw [← hw6]; exact Below.heap_setCell _ _ _ _ hb
  have hsz6 : w6.heap.size = w5.heap.size := by rw [← hw6]; simp
  have hT6 : w6.heap[W2.heap.size]? = some (.cells #[.int .i64 kd, .string nm, .string tx, .slice iso N isc, .slice kso K ksc] 25 (0, 0)) := by
    rw [← hw6]
    show (w5.heap.modify W2.heap.size _)[W2.heap.size]? = _
    rw [Array.getElem?_modify, if_pos rfl, HT5.out]; rfl
  have hR6 : w6.heap[w.heap.size + 1]? = some (.cells #[.int .i64 0, .string ⟨#[]⟩, .string ⟨#[]⟩, .slice none 0 0, .slice none 0 0] 25 (0, 0)) := (ho6 _ (by have := HS2.out; omega)).trans HR5.out
  have HB6 : Hid (Below w.heap.size w w6) := by rw [← hw6]; exact HB5.out.setCell (p := ⟨W2.heap.size, 3, none⟩) (by show _ ≤ W2.heap.size; have := HS2.out; omega) _
  have HK6 := Hid.mk (own_keepV HK5.out (fun b hb _ => ho6 b (fun e => by have h1 := HKb.out b hb; have h2 := HZ.out; omega)))
  have HRo6 := Hid.mk (HRo.out.keepB (by rw [hsz6]; exact Nat.le_refl _) (fun b h1 _ => ho6 b (by have h2 := HZ4.out; omega)))
  have HT6 := Hid.mk hT6
  have HR6 := Hid.mk hR6
  clear HR5 HT5 HB5 HK5 hb5 HQ HIt hT6 hR6 ho6 hsz6 d0 d1 d2 d3 d4
  have d0 := cell_of_row _ _ 0 _ _ _ HT6.out
  have d1 := cell_of_row _ _ 1 _ _ _ HT6.out
  have d2 := cell_of_row _ _ 2 _ _ _ HT6.out
  have d3 := cell_of_row _ _ 3 _ _ _ HT6.out
  have d4 := cell_of_row _ _ 4 _ _ _ HT6.out
  have r0 := cell_of_row _ _ 0 _ _ _ HR6.out
  have r1 := cell_of_row _ _ 1 _ _ _ HR6.out
  have r2 := cell_of_row _ _ 2 _ _ _ HR6.out
  have r3 := cell_of_row _ _ 3 _ _ _ HR6.out
  have r4 := cell_of_row _ _ 4 _ _ _ HR6.out
  have fr6 : ∀ j, w6.frozen? ⟨w.heap.size + 1, j, none⟩ = false := fun j => frozen_row HR6.out
  obtain ⟨wy, hwy⟩ : ∃ wy, ((((w6.setCell ⟨w.heap.size + 1, 0, none⟩ (.int .i64 kd)).setCell ⟨w.heap.size + 1, 1, none⟩ (.string nm)).setCell ⟨w.heap.size + 1, 2, none⟩ (.string tx)).setCell ⟨w.heap.size + 1, 3, none⟩ (.slice iso N isc)).setCell ⟨w.heap.size + 1, 4, none⟩ (.slice kso K ksc) = wy := ⟨_, rfl⟩
  obtain ⟨zb, zo, zs', zbl⟩ := set5 w6 (w.heap.size + 1) _ _ _ _ _ _ _ _ _ _ _ HR6.out wy hwy.symm
  have z0 := cell_of_row _ _ 0 _ _ _ zb
  have z1 := cell_of_row _ _ 1 _ _ _ zb
  have z2 := cell_of_row _ _ 2 _ _ _ zb
  have z3 := cell_of_row _ _ 3 _ _ _ zb
  have z4 := cell_of_row _ _ 4 _ _ _ zb
  have FIN : Hid (InF w.heap.size wy (h + 1) T (.agg #[.int .i64 kd, .string nm, .string tx, .slice iso N isc, .slice kso K ksc]) ∧ Below w.heap.size w wy ∧ TopO w.heap.size wy (.agg #[.int .i64 kd, .string nm, .string tx, .slice iso N isc, .slice kso K ksc])) := by
    have e2 := HS2.out
    have e3 := HZ.out
    have e4 := HZ4.out
    refine ⟨HE.out wy wz.heap.size w4.heap.size kso ksc iso isc c (own_keepV HK6.out fun b hb _ => zo b (fun e => by have h1 := HKb.out b hb; omega)) (HRo6.out.keepB (by rw [zs']; exact Nat.le_refl _) (fun b h1 _ => zo b (by omega))) (by omega) (by omega), HB6.out.trans (zbl _ (by omega)), _, _, _, _, _, _, _, _, _, rfl, ⟨_, own_downV (own_keepV HRo6.out.own fun b hb _ => zo b (fun e => by have h1 := (own_lowV HRo6.out.own hb).1; omega)) (by omega)⟩, ⟨_, own_downV (own_keepV HK6.out fun b hb _ => zo b (fun e => by have h1 := HKb.out b hb; omega)) (by omega)⟩⟩
  clear zb zo zs' zbl HRo6 HK6 HT6 HR6 HE
  go_wp2_with fail
  (try simp only [Exit.inBlock, Exit.then])
  refine bodyPost_ret (v := .agg #[.int .i64 kd, .string nm, .string tx, .slice iso N isc, .slice kso K ksc]) (by simp [results, Try.results7, go_sem, z0, z1, z2, z3, z4]) rfl ?_
  exact ⟨_, rfl, FIN⟩
theorem w_rRoomy : ∀ h, RoOk h
  | 0 => fun T v w hI _ => hI.elim
  | h + 1 => fun T v w hI hs => (w_rRoomy_step h (w_rRoomy h) T v w hI hs).mono fun e w' ⟨v', e1, hq⟩ => ⟨v', e1, hq.out.1, hq.out.2.1⟩
theorem w_rRoomyTop (h : Nat) : RoTop (h + 1) := w_rRoomy_step h (w_rRoomy h)
end Go.Proofs.Ytaflpeajapdkdaa
