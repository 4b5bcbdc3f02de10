import Derived.Test.YtfcbeohkhljboaaDoorM29
import Derived.Test.YtfcbeohkhljboaaDoorM24
import Derived.Deep.RegionWith
namespace Go.Proofs.YtfcbeohkhljboaaDoor
open Go.RowKit
set_option linter.unusedVariables false
set_option linter.unusedSimpArgs false

/-- the digits of a number lie there -/
def NumV (w' : World) (v : Value) (x : Nat) : Prop := ∃ zs, Got w' v zs ∧ Pl.val 1000000000 zs = x

theorem Got.keep {w w' : World} {v : Value} {zs : List Nat} (h : Got w v zs) (hb : Below w.heap.size w w') : Got w' v zs := ⟨h.1.keep hb, h.2⟩
theorem NumV.keep {w w' : World} {v : Value} {x : Nat} (h : NumV w v x) (hb : Below w.heap.size w w') : NumV w' v x := by
  obtain ⟨zs, h1, h2⟩ := h; exact ⟨zs, h1.keep hb, h2⟩

theorem NumV.fits {w : World} {v : Value} {x K : Nat} (h : NumV w v x) (hx : x < 1000000000 ^ K) : ∃ zs, Got w v zs ∧ Pl.val 1000000000 zs = x ∧ zs.length ≤ K := by
  obtain ⟨zs, h1, h2⟩ := h
  exact ⟨zs, h1, h2, Pl.len_of_val (B := 1000000000) (by decide) h1.2.2 (by rw [h2]; exact hx)⟩

theorem fresh_num {w w' : World} {v : Value} {zs : List Nat} (h : Fresh w w' v zs) : NumV w' v (Pl.val 1000000000 zs) ∧ Below w.heap.size w w' :=
  ⟨⟨zs, ⟨h.1, h.2.1, h.2.2.1⟩, rfl⟩, h.2.2.2.1⟩

/-- what a number's method answers -/
def NumR (w w' : World) (e : Ending) (z : Int) : Prop := ∃ bl v x, e = .returned (.agg #[.bool bl, v]) ∧ NumV w' v x ∧ sgn bl x = z ∧ Below w.heap.size w w'

theorem below2 (w : World) (o1 o2 : Obj) : Below w.heap.size w ((w.alloc o1).alloc o2) := ((Below.refl w.heap.size w).alloc (Nat.le_refl _) o1).alloc (by simp) o2
theorem below1 (w : World) (o1 : Obj) : Below w.heap.size w (w.alloc o1) := (Below.refl w.heap.size w).alloc (Nat.le_refl _) o1
theorem below_more {w w1 w2 : World} (h : Below w.heap.size w w1) (h2 : Below w1.heap.size w1 w2) : Below w.heap.size w w2 := h.trans (h2.mono h.size)

/-- the world with two numbers and a third one's room laid down -/
def box3 (w : World) (b1 : Bool) (v1 : Value) (b2 : Bool) (v2 : Value) : World := ((w.alloc (.cells #[.bool b1, v1] 58)).alloc (.cells #[.bool b2, v2] 58)).alloc (.cells #[.bool false, .slice none 0 0] 58)
theorem box3_below (w : World) (b1 : Bool) (v1 : Value) (b2 : Bool) (v2 : Value) : Below w.heap.size w (box3 w b1 v1 b2 v2) := (below2 w _ _).alloc (by simp; omega) _
theorem box3_size (w : World) (b1 : Bool) (v1 : Value) (b2 : Bool) (v2 : Value) : (box3 w b1 v1 b2 v2).heap.size = w.heap.size + 3 := by simp [box3]

/-- what lies in them -/
structure In3 (w u : World) (b1 : Bool) (v1 : Value) (b2 : Bool) (v2 : Value) : Prop where
  c00 : u.cell? ⟨w.heap.size, 0, none⟩ = some (.bool b1)
  c01 : u.cell? ⟨w.heap.size, 1, none⟩ = some v1
  c10 : u.cell? ⟨w.heap.size + 1, 0, none⟩ = some (.bool b2)
  c11 : u.cell? ⟨w.heap.size + 1, 1, none⟩ = some v2
  c20 : u.cell? ⟨w.heap.size + 1 + 1, 0, none⟩ = some (.bool false)
  c21 : u.cell? ⟨w.heap.size + 1 + 1, 1, none⟩ = some (.slice none 0 0)
  f00 : u.frozen? ⟨w.heap.size, 0, none⟩ = false
  f01 : u.frozen? ⟨w.heap.size, 1, none⟩ = false
  f10 : u.frozen? ⟨w.heap.size + 1, 0, none⟩ = false
  f11 : u.frozen? ⟨w.heap.size + 1, 1, none⟩ = false
  f20 : u.frozen? ⟨w.heap.size + 1 + 1, 0, none⟩ = false
  f21 : u.frozen? ⟨w.heap.size + 1 + 1, 1, none⟩ = false
  size : w.heap.size + 3 ≤ u.heap.size
  below : Below w.heap.size w u

theorem in3_box (w : World) (b1 : Bool) (v1 : Value) (b2 : Bool) (v2 : Value) : In3 w (box3 w b1 v1 b2 v2) b1 v1 b2 v2 where
  c00 := by simp [box3, go_sem]
  c01 := by simp [box3, go_sem]
  c10 := by simp [box3, go_sem]
  c11 := by simp [box3, go_sem]
  c20 := by simp [box3, go_sem]
  c21 := by simp [box3, go_sem]
  f00 := by simp [box3, go_sem]
  f01 := by simp [box3, go_sem]
  f10 := by simp [box3, go_sem]
  f11 := by simp [box3, go_sem]
  f20 := by simp [box3, go_sem]
  f21 := by simp [box3, go_sem]
  size := by rw [box3_size]; exact Nat.le_refl _
  below := box3_below _ _ _ _ _

theorem In3.keep {w u u' : World} {b1 : Bool} {v1 : Value} {b2 : Bool} {v2 : Value} (h : In3 w u b1 v1 b2 v2) (hb : Below u.heap.size u u') : In3 w u' b1 v1 b2 v2 := by
  have hs := h.size
  exact ⟨below_cells hb (by omega) h.c00, below_cells hb (by omega) h.c01, below_cells hb (by omega) h.c10, below_cells hb (by omega) h.c11, below_cells hb (by omega) h.c20, below_cells hb (by omega) h.c21,
    below_frees hb (by omega) h.f00, below_frees hb (by omega) h.f01, below_frees hb (by omega) h.f10, below_frees hb (by omega) h.f11, below_frees hb (by omega) h.f20, below_frees hb (by omega) h.f21, Nat.le_trans hs hb.size, below_more h.below hb⟩

theorem In3.drew {w u : World} {b1 : Bool} {v1 : Value} {b2 : Bool} {v2 : Value} (h : In3 w u b1 v1 b2 v2) : In3 w u.drew b1 v1 b2 v2 := h.keep (Below.refl _ _).drew

theorem Nums.put {w : World} {v : Value} {xs : List Nat} (h : Nums .u64 w v xs) (a : Addr) (x y : Value) (hc : w.cell? a = some y) (hy : ∀ i, y ≠ .int .u64 i) : Nums .u64 (w.setCell a x) v xs := by
  obtain ⟨ao, cap, hv, hc', hk, hr⟩ := h
  have hsz : (w.setCell a x).heap.size = w.heap.size := by simp
  refine ⟨ao, cap, hv, hc', fun b e => by rw [hsz]; exact hk b e, fun hn => ?_⟩
  obtain ⟨b, off, ha, hlt, hcell⟩ := hr hn
  refine ⟨b, off, ha, by rw [hsz]; exact hlt, fun i hi => ?_⟩
  have h1 := hcell i hi
  have hne : a ≠ ⟨b, off + i, none⟩ := by
    intro e
    rw [← e, hc] at h1
    exact hy _ (Option.some.inj h1)
  rw [World.cell?_setCell_other _ _ _ _ hne]; exact h1

theorem NumV.put {w : World} {v : Value} {z : Nat} (h : NumV w v z) (a : Addr) (x y : Value) (hc : w.cell? a = some y) (hy : ∀ i, y ≠ .int .u64 i) : NumV (w.setCell a x) v z := by
  obtain ⟨zs, h1, h2⟩ := h; exact ⟨zs, ⟨h1.1.put a x y hc hy, h1.2⟩, h2⟩

/-- the answer's room is filled -/
theorem fill {w u : World} {g : Nat} {bl bq : Bool} {v vq : Value} {x : Nat} (hb : Below w.heap.size w u) (hg : w.heap.size ≤ g) (c0 : u.cell? ⟨g, 0, none⟩ = some (.bool bq)) (c1 : u.cell? ⟨g, 1, none⟩ = some vq) (hq : ∀ i, vq ≠ .int .u64 i) (hn : NumV u v x) :
    ((u.setCell ⟨g, 0, none⟩ (.bool bl)).setCell ⟨g, 1, none⟩ v).cell? ⟨g, 0, none⟩ = some (.bool bl) ∧ ((u.setCell ⟨g, 0, none⟩ (.bool bl)).setCell ⟨g, 1, none⟩ v).cell? ⟨g, 1, none⟩ = some v ∧ NumV ((u.setCell ⟨g, 0, none⟩ (.bool bl)).setCell ⟨g, 1, none⟩ v) v x ∧ Below w.heap.size w ((u.setCell ⟨g, 0, none⟩ (.bool bl)).setCell ⟨g, 1, none⟩ v) := by
  have d1 : (u.setCell ⟨g, 0, none⟩ (.bool bl)).cell? ⟨g, 1, none⟩ = some vq := by
    rw [World.cell?_setCell_other _ _ _ _ (by simp)]; exact c1
  refine ⟨?_, World.cell?_setCell_same _ _ _ d1, ?_, (hb.setCell hg _).setCell hg _⟩
  · rw [World.cell?_setCell_other _ _ _ _ (by simp)]; exact World.cell?_setCell_same _ _ _ c0
  · exact (hn.put _ _ _ c0 (by simp)).put _ _ _ d1 hq

/-- the two are exchanged -/
theorem In3.swap {w u : World} {b1 : Bool} {v1 : Value} {b2 : Bool} {v2 : Value} (h : In3 w u b1 v1 b2 v2) :
    In3 w ((((u.setCell ⟨w.heap.size, 0, none⟩ (.bool b2)).setCell ⟨w.heap.size, 1, none⟩ v2).setCell ⟨w.heap.size + 1, 0, none⟩ (.bool b1)).setCell ⟨w.heap.size + 1, 1, none⟩ v1) b2 v2 b1 v1 := by
  obtain ⟨c00, c01, c10, c11, c20, c21, f00, f01, f10, f11, f20, f21, size, below⟩ := h
  have e1 : (u.setCell ⟨w.heap.size, 0, none⟩ (.bool b2)).cell? ⟨w.heap.size, 1, none⟩ = some v1 := by rw [World.cell?_setCell_other _ _ _ _ (by simp)]; exact c01
  have e2 : ((u.setCell ⟨w.heap.size, 0, none⟩ (.bool b2)).setCell ⟨w.heap.size, 1, none⟩ v2).cell? ⟨w.heap.size + 1, 0, none⟩ = some (.bool b2) := by
    rw [World.cell?_setCell_other _ _ _ _ (by simp), World.cell?_setCell_other _ _ _ _ (by simp)]; exact c10
  have e3 : (((u.setCell ⟨w.heap.size, 0, none⟩ (.bool b2)).setCell ⟨w.heap.size, 1, none⟩ v2).setCell ⟨w.heap.size + 1, 0, none⟩ (.bool b1)).cell? ⟨w.heap.size + 1, 1, none⟩ = some v2 := by
    rw [World.cell?_setCell_other _ _ _ _ (by simp), World.cell?_setCell_other _ _ _ _ (by simp), World.cell?_setCell_other _ _ _ _ (by simp)]; exact c11
  refine ⟨?_, ?_, ?_, World.cell?_setCell_same _ _ _ e3, ?_, ?_, ?_, ?_, ?_, ?_, ?_, ?_, ?_, ?_⟩
  · rw [World.cell?_setCell_other _ _ _ _ (by simp), World.cell?_setCell_other _ _ _ _ (by simp), World.cell?_setCell_other _ _ _ _ (by simp)]; exact World.cell?_setCell_same _ _ _ c00
  · rw [World.cell?_setCell_other _ _ _ _ (by simp), World.cell?_setCell_other _ _ _ _ (by simp)]; exact World.cell?_setCell_same _ _ _ e1
  · rw [World.cell?_setCell_other _ _ _ _ (by simp)]; exact World.cell?_setCell_same _ _ _ e2
  · rw [World.cell?_setCell_other _ _ _ _ (by simp), World.cell?_setCell_other _ _ _ _ (by simp), World.cell?_setCell_other _ _ _ _ (by simp), World.cell?_setCell_other _ _ _ _ (by simp)]; exact c20
  · rw [World.cell?_setCell_other _ _ _ _ (by simp), World.cell?_setCell_other _ _ _ _ (by simp), World.cell?_setCell_other _ _ _ _ (by simp), World.cell?_setCell_other _ _ _ _ (by simp)]; exact c21
  · simpa using f00
  · simpa using f01
  · simpa using f10
  · simpa using f11
  · simpa using f20
  · simpa using f21
  · simpa using size
  · exact (((below.setCell (Nat.le_refl _) _).setCell (Nat.le_refl _) _).setCell (Nat.le_succ _) _).setCell (Nat.le_succ _) _

/-- less from more -/
theorem diff_any {w : World} {ao bo : Option Addr} {ca cb K : Nat} {xs ys : List Nat} (g1 : Got w (.slice ao xs.length ca) xs) (g2 : Got w (.slice bo ys.length cb) ys) (l1 : xs.length ≤ K) (hK : K ≤ 274877906944) (hle : Pl.val 1000000000 ys ≤ Pl.val 1000000000 xs) (u : World) (hu : Below w.heap.size w u) :
    Calls Tryd.prog 80 #[.slice ao xs.length ca, .slice bo ys.length cb] u fun e w' => ∃ ro rn rc, e = .returned (.slice ro rn rc) ∧ Hid (NumV w' (.slice ro rn rc) (Pl.val 1000000000 xs - Pl.val 1000000000 ys)) ∧ Below u.heap.size u w' := by
  refine (w_difference _ _ xs ys u (g1.1.keep hu) (g2.1.keep hu) (by omega) g1.2.1 g2.2.1 g2.2.2 hle).mono ?_
  rintro e w' ⟨v, zs, rfl, hf, hv⟩
  obtain ⟨ro, rc, rfl, _⟩ := hf.1
  obtain ⟨n1, n2⟩ := fresh_num hf
  refine ⟨ro, _, rc, rfl, ?_, n2⟩
  rw [show Pl.val 1000000000 zs = Pl.val 1000000000 xs - Pl.val 1000000000 ys by omega] at n1
  exact n1

end Go.Proofs.YtfcbeohkhljboaaDoor
