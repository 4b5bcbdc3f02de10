import Derived.Test.YtdmkfdaddacdhaaGreatDoorM23
namespace Go.Proofs.YtdmkfdaddacdhaaGreatDoor
open Go.RowKit Go.Shelf
set_option linter.unusedVariables false
set_option linter.unusedSimpArgs false
attribute [local go_sem] Oper.semAt_some

/-- a filter's part as a value: its cells -/
structure ND where
  op : Int
  at_ : Int
  vk : Int
  tx : ByteArray
  nu : ByteArray
  vt : ByteArray
  io : Option Addr
  yo : Option Addr
  no : Option Addr
  ko : Option Addr
  iN : Nat
  ic : Nat
  yN : Nat
  yc : Nat
  nN : Nat
  nc : Nat
  kN : Nat
  kc : Nat
def ND.v (d : ND) : Value := .agg #[.int .i64 d.op, .int .i64 d.at_, .string d.tx, .int .i64 d.vk, .string d.nu, .string d.vt, .slice d.io d.iN d.ic, .slice d.yo d.yN d.yc, .slice d.no d.nN d.nc, .slice d.ko d.kN d.kc]
/-- a part with no more than its kind, its place and a number -/
def fvD (op at_ vk : Int) (nu : ByteArray) : ND := ⟨op, at_, vk, ⟨#[]⟩, nu, ⟨#[]⟩, none, none, none, none, 0, 0, 0, 0, 0, 0, 0, 0⟩
/-- a call's world on its way: all but the parser as it lay, the parser where it stands, the answer's box still empty -/
structure St (w : World) (B : Nat) (so : Option Addr) (sc : Nat) (ws : List Tok) (nb t o : Nat) (W : World) : Prop where
  bt : Bt B w W
  pat : PAt W B so sc ws nb t o
  lt : w.heap.size < W.heap.size
  res : W.heap[w.heap.size]? = some (.cells #[.int .i64 0, .int .i64 0, .string ⟨#[]⟩, .int .i64 0, .string ⟨#[]⟩, .string ⟨#[]⟩, .slice none 0 0, .slice none 0 0, .slice none 0 0, .slice none 0 0] 28 (0, 0))
theorem St.new {w : World} {B : Nat} {so : Option Addr} {sc : Nat} {ws : List Tok} {nb t o : Nat} (h : PAt w B so sc ws nb t o) : St w B so sc ws nb t o (w.alloc (.cells #[.int .i64 0, .int .i64 0, .string ⟨#[]⟩, .int .i64 0, .string ⟨#[]⟩, .string ⟨#[]⟩, .slice none 0 0, .slice none 0 0, .slice none 0 0, .slice none 0 0] 28)) := ⟨(Bt.refl B w).alloc _, h.alloc _, by simp, heap_alloc_new w _⟩
theorem St.keep {w W W' : World} {B : Nat} {so : Option Addr} {sc : Nat} {ws : List Tok} {nb t o : Nat} (h : St w B so sc ws nb t o W) (hb : Below W.heap.size W W') : St w B so sc ws nb t o W' := ⟨h.bt.trans (Bt.of hb), h.pat.keep hb, Nat.lt_of_lt_of_le h.lt hb.size, (hb.block _ h.lt).trans h.res⟩
theorem St.step {w W W' : World} {B : Nat} {so : Option Addr} {sc : Nat} {ws : List Tok} {nb t o : Nat} {t' o' : Nat} (h : St w B so sc ws nb t o W) (hB : B < w.heap.size) (hb : Bt B W W') (hp : PAt W' B so sc ws nb t' o') : St w B so sc ws nb t' o' W' := ⟨h.bt.trans hb, hp, Nat.lt_of_lt_of_le h.lt hb.size, (hb.block _ h.lt (by omega)).trans h.res⟩
theorem St.alloc {w W : World} {B : Nat} {so : Option Addr} {sc : Nat} {ws : List Tok} {nb t o : Nat} (h : St w B so sc ws nb t o W) (x : Obj) : St w B so sc ws nb t o (W.alloc x) := h.keep ((Below.refl _ _).alloc (Nat.le_refl _) x)
theorem St.drew {w W : World} {B : Nat} {so : Option Addr} {sc : Nat} {ws : List Tok} {nb t o : Nat} (h : St w B so sc ws nb t o W) : St w B so sc ws nb t o W.drew := h.keep (Below.refl _ _).drew
/-- a call that answers a part -/
def NdR (B : Nat) (so : Option Addr) (sc : Nat) (ws : List Tok) (nb : Nat) (w : World) (t o : Nat) (d : ND) (e : Ending) (w' : World) : Prop := e = .returned d.v ∧ Bt B w w' ∧ PAt w' B so sc ws nb t o
theorem St.put {w W W' : World} {B : Nat} {so : Option Addr} {sc : Nat} {ws : List Tok} {nb t o : Nat} {t0 o0 : Nat} {x : Obj} (h : St w B so sc ws nb t o W) (h0 : PAt w B so sc ws nb t0 o0) (hp : Put w.heap.size x W W') : Bt B w W' ∧ PAt W' B so sc ws nb t o := by
  have hB := h0.lt
  have hb : Bt B w W' := hp.bt h.bt (Nat.le_refl _)
  exact ⟨hb, h0.stepT t o hb h.pat.le h.pat.open_ ((hp.rest B (by omega)).trans h.pat.box)⟩

set_option maxRecDepth 100000 in
set_option maxHeartbeats 3200000 in
theorem w_self (a : Int) (w : World) : Calls Tryz.prog 231 #[.int .i64 a] w fun e w' => e = .returned (fvD 1 a 0 ⟨#[]⟩).v ∧ Below w.heap.size w w' := by
  go_enter Tryz.func231, Tryz.ntmps231
  go_wp2_with fail
  refine ⟨rfl, (fvD 1 a 0 ⟨#[]⟩).v, by simp [ND.v, fvD, results, Tryz.results231, go_sem], rfl, below1 w _⟩

set_option maxRecDepth 100000 in
set_option maxHeartbeats 3200000 in
theorem w_constN (a : Int) (nu : ByteArray) (w : World) : Calls Tryz.prog 214 #[.int .i64 a, .agg #[.int .i64 3, .string nu, .string ⟨#[]⟩, .slice none 0 0, .slice none 0 0]] w fun e w' => e = .returned (fvD 2 a 3 nu).v ∧ Below w.heap.size w w' := by
  go_enter Tryz.func214, Tryz.ntmps214
  go_wp2_with fail
  refine ⟨rfl, (fvD 2 a 3 nu).v, by simp [ND.v, fvD, results, Tryz.results214, go_sem], rfl, (below1 w _).alloc (by simp) _⟩

set_option maxRecDepth 100000 in
set_option maxHeartbeats 3200000 in
theorem w_dot1 {B : Nat} {so : Option Addr} {sc : Nat} {ws : List Tok} {nb t o : Nat} (w : World) (hP : PAt w B so sc ws nb t o) (ht : t < ws.length) (h6 : (hrP ws (t + 1)).kind ≠ 6) (h7 : (hrP ws (t + 1)).kind ≠ 7) :
    Calls Tryz.prog 226 #[.pointer (some ⟨B, 0, none⟩)] w fun e w' => NdR B so sc ws nb w (t + 1) o (fvD 1 ((hrP ws t).at_ : Int) 0 ⟨#[]⟩) e w' := by
  have hB := hP.lt
  have HP := Hid.mk hP
  have HS0 := Hid.mk (St.new hP)
  have HT : Hid (∀ u, PAt u B so sc ws nb t o → Calls Tryz.prog 166 #[.pointer (some ⟨B, 0, none⟩)] u fun e w' => e = .returned (tokV (hrP ws t)) ∧ Bt B u w' ∧ PAt w' B so sc ws nb (t + 1) o) := fun u hu => w_take u hu ht
  have H6 : Hid (∀ u, PAt u B so sc ws nb (t + 1) o → Calls Tryz.prog 193 #[.pointer (some ⟨B, 0, none⟩), .int .i64 6] u fun e w' => e = .returned (.bool false) ∧ Below u.heap.size u w') := fun u hu => by
    have := w_isK 6 u hu
    rwa [beq_eq_false_iff_ne.2 h6] at this
  have H7 : Hid (∀ u, PAt u B so sc ws nb (t + 1) o → Calls Tryz.prog 193 #[.pointer (some ⟨B, 0, none⟩), .int .i64 7] u fun e w' => e = .returned (.bool false) ∧ Below u.heap.size u w') := fun u hu => by
    have := w_isK 7 u hu
    rwa [beq_eq_false_iff_ne.2 h7] at this
  have hfl := Tryz.fldT1
  clear hP h6 h7
  generalize hrP ws t = T at *
  obtain ⟨kd, pa, fi, tx, er⟩ := T
  unfold tokV at HT
  dsimp only at HT ⊢
  go_enter Tryz.func226, Tryz.ntmps226
  go_wp2_with fail
  refine (HT.out _ HS0.out.pat).mono ?_
  rintro e w1 ⟨rfl, hb1, hp1⟩
  have HS1 := Hid.mk (HS0.out.step hB hb1 hp1)
  clear hb1 hp1
  go_wp2_with fail
  refine (H6.out _ HS1.out.pat).mono ?_
  rintro e w2 ⟨rfl, hb2⟩
  have HS2 := Hid.mk (HS1.out.keep hb2)
  clear hb2
  go_wp2_with fail
  refine (H7.out _ HS2.out.pat).mono ?_
  rintro e w3 ⟨rfl, hb3⟩
  have HS3 := Hid.mk (HS2.out.keep hb3)
  clear hb3
  go_wp2_with fail
  refine (w_self (pa : Int) w3).mono ?_
  rintro e w4 ⟨rfl, hb4⟩
  have HS4 := Hid.mk (HS3.out.keep hb4)
  clear hb4
  obtain ⟨n0, n1, n2, n3, n4, n5, n6, n7, n8, n9⟩ := nd_cells HS4.out.res
  obtain ⟨f0, f1, f2, f3, f4, f5, f6, f7, f8, f9⟩ := nd_frozen HS4.out.res
  unfold ND.v fvD
  dsimp only
  go_wp2_with fail
  generalize hzZ : (((((((((w4.setCell ⟨w.heap.size, 0, none⟩ (.int .i64 1)).setCell ⟨w.heap.size, 1, none⟩ (.int .i64 (pa : Int))).setCell ⟨w.heap.size, 2, none⟩ (.string ⟨#[]⟩)).setCell ⟨w.heap.size, 3, none⟩ (.int .i64 0)).setCell ⟨w.heap.size, 4, none⟩ (.string ⟨#[]⟩)).setCell ⟨w.heap.size, 5, none⟩ (.string ⟨#[]⟩)).setCell ⟨w.heap.size, 6, none⟩ (.slice none 0 0)).setCell ⟨w.heap.size, 7, none⟩ (.slice none 0 0)).setCell ⟨w.heap.size, 8, none⟩ (.slice none 0 0)).setCell ⟨w.heap.size, 9, none⟩ (.slice none 0 0) = WZ
  have PZ := nd_set HS4.out.res hzZ
  obtain ⟨m0, m1, m2, m3, m4, m5, m6, m7, m8, m9⟩ := nd_cells PZ.new
  refine bodyPost_ret (v := .agg #[.int .i64 1, .int .i64 (pa : Int), .string ⟨#[]⟩, .int .i64 0, .string ⟨#[]⟩, .string ⟨#[]⟩, .slice none 0 0, .slice none 0 0, .slice none 0 0, .slice none 0 0]) (by simp [results, Tryz.results226, go_sem, m0, m1, m2, m3, m4, m5, m6, m7, m8, m9]) rfl ?_
  exact ⟨rfl, HS4.out.put HP.out PZ⟩

end Go.Proofs.YtdmkfdaddacdhaaGreatDoor
