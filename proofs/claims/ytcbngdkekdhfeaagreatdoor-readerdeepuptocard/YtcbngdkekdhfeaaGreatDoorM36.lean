import Derived.Test.YtcbngdkekdhfeaaGreatDoorM34
import Derived.Test.YtcbngdkekdhfeaaGreatDoorM35
import Derived.Test.YtcbngdkekdhfeaaGreatDoorM33
import Derived.Maps.AppendAt
import Derived.Deep.AppendLies
namespace Go.Proofs.YtcbngdkekdhfeaaGreatDoor
open Go.RowKit Go.Shelf
set_option linter.unusedVariables false
set_option linter.unusedSimpArgs false
attribute [local go_sem] Oper.semAt_some

theorem sg5_inj : ∀ a b : Nat, 1 ≤ a → a ≤ 11 → 1 ≤ b → b ≤ 11 → sg5 a = sg5 b → a = b := by
  intro a b h1 h2 h3 h4 e
  have ha : a = 1 ∨ a = 2 ∨ a = 3 ∨ a = 4 ∨ a = 5 ∨ a = 6 ∨ a = 7 ∨ a = 8 ∨ a = 9 ∨ a = 10 ∨ a = 11 := by omega
  have hb : b = 1 ∨ b = 2 ∨ b = 3 ∨ b = 4 ∨ b = 5 ∨ b = 6 ∨ b = 7 ∨ b = 8 ∨ b = 9 ∨ b = 10 ∨ b = 11 := by omega
  rcases ha with rfl | rfl | rfl | rfl | rfl | rfl | rfl | rfl | rfl | rfl | rfl <;> rcases hb with rfl | rfl | rfl | rfl | rfl | rfl | rfl | rfl | rfl | rfl | rfl <;> first | rfl | (exact absurd e (by decide))
theorem sg5_36 {a : Nat} (h1 : 1 ≤ a) (h2 : a ≤ 11) : sg5 a ≠ 36 := by
  have ha : a = 1 ∨ a = 2 ∨ a = 3 ∨ a = 4 ∨ a = 5 ∨ a = 6 ∨ a = 7 ∨ a = 8 ∨ a = 9 ∨ a = 10 ∨ a = 11 := by omega
  rcases ha with rfl | rfl | rfl | rfl | rfl | rfl | rfl | rfl | rfl | rfl | rfl <;> decide
theorem nx5_is {l : List UInt8} {p : Nat} {e : Ending} (h : Nx5 l p e) (K : Nat) (hK : 1 ≤ K ∧ K ≤ 11) : ∃ sg a z tx cd, e = .returned (pc5 sg a z tx cd) ∧
    ((cd = 0 ∧ sg = sg5 K ∧ ∃ t, mustL l p = .ok t z ∧ t.kind = K ∧ t.at_ = a ∧ t.text = tx) ∨
     ((¬ cd = 0 ∨ (cd = 0 ∧ ¬ sg = sg5 K)) ∧ ∃ er, er ≠ 0 ∧ (if cd = 0 then (if sg = 36 then 50 else 51) else cd) = er ∧ ((mustL l p = .bad er a ∧ (cd = 0 → sg = 36)) ∨ ∃ t, mustL l p = .ok t z ∧ t.kind ≠ K ∧ er = 51 ∧ t.at_ = a ∧ cd = 0 ∧ sg = sg5 t.kind ∧ 1 ≤ t.kind ∧ t.kind ≤ 11))) := by
  rcases nx5_must h with ⟨t, p1, h1, k1, k2, rfl⟩ | ⟨sg, q, z, cd, er, h1, h2, rfl, hc⟩
  · refine ⟨_, _, _, _, _, rfl, ?_⟩
    by_cases hk : t.kind = K
    · exact .inl ⟨rfl, by rw [hk], t, h1, hk, rfl, rfl⟩
    · exact .inr ⟨.inr ⟨rfl, fun e => hk (sg5_inj _ _ k1 k2 hK.1 hK.2 e)⟩, 51, by omega, by rw [if_pos rfl, if_neg (sg5_36 k1 k2)], .inr ⟨t, h1, hk, rfl, rfl, rfl, rfl, k1, k2⟩⟩
  · refine ⟨_, _, _, _, _, rfl, .inr ?_⟩
    rcases hc with ⟨h3, rfl⟩ | ⟨rfl, rfl, rfl⟩
    · exact ⟨.inl h3, _, h3, by rw [if_neg h3], .inl ⟨h1, fun e => absurd e h3⟩⟩
    · exact ⟨.inr ⟨rfl, fun e => sg5_36 hK.1 hK.2 e.symm⟩, _, h2, by rw [if_pos rfl, if_pos rfl], .inl ⟨h1, fun _ => rfl⟩⟩
structure ROs (lo Pb H : Nat) (fs : List (List UInt8 × VT)) (w u : World) : Prop where
  obj : ∃ io ic ko kc, u.heap[w.heap.size + 1]? = some (.cells #[.int .i64 6, .string ⟨#[]⟩, .string ⟨#[]⟩, .slice io fs.length ic, .slice ko fs.length kc] 27 (0, 0)) ∧ InF lo u (H + 1 + 1) (objT fs) (.agg #[.int .i64 6, .string ⟨#[]⟩, .string ⟨#[]⟩, .slice io fs.length ic, .slice ko fs.length kc])
  res : u.heap[w.heap.size]? = some (.cells #[.int .i64 0, .string ⟨#[]⟩, .string ⟨#[]⟩, .slice none 0 0, .slice none 0 0, .int .i64 0, .int .i64 0] 72 (0, 0))
  pb : ∃ y0 y1 y2 y3 y4, u.heap[Pb]? = some (.cells #[y0, y1, y2, y3, y4] 69 (0, 0))
  bel : Below w.heap.size w u
  pl : w.heap.size + 1 < Pb
  pl2 : Pb < lo
  ll : lo ≤ u.heap.size
theorem ROs.low {lo Pb H : Nat} {fs : List (List UInt8 × VT)} {w u u' : World} (h : ROs lo Pb H fs w u) (hb : Below u.heap.size u u') : ROs lo Pb H fs w u' := by
  obtain ⟨io, ic, ko, kc, hO, hI⟩ := h.obj
  obtain ⟨y0, y1, y2, y3, y4, hp⟩ := h.pb
  have h1 := h.pl
  have h2 := h.pl2
  have h3 := h.ll
  have h4 := hb.size
  exact ⟨⟨io, ic, ko, kc, (hb.block _ (by omega)).trans hO, hI.low hb⟩, (hb.block _ (by omega)).trans h.res, ⟨y0, y1, y2, y3, y4, (hb.block _ (by omega)).trans hp⟩, h.bel.trans (hb.mono h.bel.size), h1, h2, by omega⟩
theorem ROs.pset {lo Pb H : Nat} {fs : List (List UInt8 × VT)} {w u : World} (h : ROs lo Pb H fs w u) (a0 a1 a2 a3 a4 : Value) (W : World) (hW : W = (((((u.setCell ⟨Pb, 0, none⟩ (a0)).setCell ⟨Pb, 1, none⟩ (a1)).setCell ⟨Pb, 2, none⟩ (a2)).setCell ⟨Pb, 3, none⟩ (a3)).setCell ⟨Pb, 4, none⟩ (a4))) : ROs lo Pb H fs w W ∧ W.heap[Pb]? = some (.cells #[a0, a1, a2, a3, a4] 69 (0, 0)) := by
  obtain ⟨io, ic, ko, kc, hO, hI⟩ := h.obj
  obtain ⟨y0, y1, y2, y3, y4, hp⟩ := h.pb
  have h1 := h.pl
  have h2 := h.pl2
  have h3 := h.ll
  obtain ⟨e5, k5, s5⟩ := rbox_set5 u _ _ _ _ _ _ _ _ _ _ _ _ hp W hW
  refine ⟨⟨⟨io, ic, ko, kc, (k5 _ (by omega)).trans hO, InF.keepB (by omega) (fun b hb _ => k5 b (by omega)) (Nat.le_refl _) hI⟩, (k5 _ (by omega)).trans h.res, ⟨_, _, _, _, _, e5⟩, ?_, h1, h2, by omega⟩, e5⟩
  rw [hW]
  exact ((((h.bel.setCell (p := ⟨Pb, 0, none⟩) (by show w.heap.size ≤ Pb; omega) _).setCell (p := ⟨Pb, 1, none⟩) (by show w.heap.size ≤ Pb; omega) _).setCell (p := ⟨Pb, 2, none⟩) (by show w.heap.size ≤ Pb; omega) _).setCell (p := ⟨Pb, 3, none⟩) (by show w.heap.size ≤ Pb; omega) _).setCell (p := ⟨Pb, 4, none⟩) (by show w.heap.size ≤ Pb; omega) _
theorem ROs.vset {lo Pb H : Nat} {fs fs' : List (List UInt8 × VT)} {w u : World} {io ko : Option Addr} {ic kc : Nat} (h : ROs lo Pb H fs w u) (hI : InF lo u (H + 1 + 1) (objT fs') (.agg #[.int .i64 6, .string ⟨#[]⟩, .string ⟨#[]⟩, .slice io fs'.length ic, .slice ko fs'.length kc])) (W : World) (hW : W = (((((u.setCell ⟨w.heap.size + 1, 0, none⟩ (.int .i64 6)).setCell ⟨w.heap.size + 1, 1, none⟩ (.string ⟨#[]⟩)).setCell ⟨w.heap.size + 1, 2, none⟩ (.string ⟨#[]⟩)).setCell ⟨w.heap.size + 1, 3, none⟩ ((.slice io fs'.length ic))).setCell ⟨w.heap.size + 1, 4, none⟩ ((.slice ko fs'.length kc)))) : ROs lo Pb H fs' w W ∧ (∀ b, b ≠ w.heap.size + 1 → W.heap[b]? = u.heap[b]?) ∧ W.heap.size = u.heap.size := by
  obtain ⟨io2, ic2, ko2, kc2, hO, _⟩ := h.obj
  obtain ⟨y0, y1, y2, y3, y4, hp⟩ := h.pb
  have h1 := h.pl
  have h2 := h.pl2
  have h3 := h.ll
  obtain ⟨e5, k5, s5⟩ := rbox_set5 u _ _ _ _ _ _ _ _ _ _ _ _ hO W hW
  refine ⟨⟨⟨io, ic, ko, kc, e5, InF.keepB (by omega) (fun b hb _ => k5 b (by omega)) (Nat.le_refl _) hI⟩, (k5 _ (by omega)).trans h.res, ⟨_, _, _, _, _, (k5 _ (by omega)).trans hp⟩, ?_, h1, h2, by omega⟩, k5, s5⟩
  rw [hW]
  exact ((((h.bel.setCell (p := ⟨w.heap.size + 1, 0, none⟩) (by show w.heap.size ≤ w.heap.size + 1; omega) _).setCell (p := ⟨w.heap.size + 1, 1, none⟩) (by show w.heap.size ≤ w.heap.size + 1; omega) _).setCell (p := ⟨w.heap.size + 1, 2, none⟩) (by show w.heap.size ≤ w.heap.size + 1; omega) _).setCell (p := ⟨w.heap.size + 1, 3, none⟩) (by show w.heap.size ≤ w.heap.size + 1; omega) _).setCell (p := ⟨w.heap.size + 1, 4, none⟩) (by show w.heap.size ≤ w.heap.size + 1; omega) _
theorem any_objT (fs : List (List UInt8 × VT)) (tx : List UInt8) : ((objT fs).keys.any fun k => k.toList == (⟨tx.toArray⟩ : ByteArray).toList) = fs.any fun f => f.1 == tx := by
  have e1 : (objT fs).keys = (objS fs).map fun f => bT f.1 := rfl
  rw [e1, List.any_map]
  have e2 : ∀ f : (List UInt8 × VT), ((bT f.1).toList == (⟨tx.toArray⟩ : ByteArray).toList) = (f.1 == tx) := fun f => by
    unfold bT
    rw [Lib.toList_data, Lib.toList_data]
  rw [Bool.eq_iff_iff, List.any_eq_true, List.any_eq_true]
  constructor
  · rintro ⟨x, h1, h2⟩
    exact ⟨x, (objS_perm fs).mem_iff.1 h1, by rw [← e2]; exact h2⟩
  · rintro ⟨x, h1, h2⟩
    exact ⟨x, (objS_perm fs).mem_iff.2 h1, by show ((bT x.1).toList == _) = true; rw [e2]; exact h2⟩
theorem w_5HasO {lo H : Nat} {fs : List (List UInt8 × VT)} {u : World} {io ko : Option Addr} {ic kc : Nat} (hI : InF lo u (H + 1 + 1) (objT fs) (.agg #[.int .i64 6, .string ⟨#[]⟩, .string ⟨#[]⟩, .slice io fs.length ic, .slice ko fs.length kc])) (tx : List UInt8) :
    Calls Tryz.prog 22 #[.slice ko fs.length kc, .string ⟨tx.toArray⟩] u fun e w' => e = .returned (.bool (fs.any fun f => f.1 == tx)) ∧ w' = u := by
  obtain ⟨io', ic', ko', kc', e, a1, a2, a3, a4, a5, a6, a7, hk, _⟩ := hI.toH
  have eK : (objT fs).keys.length = fs.length := by show ((objS fs).map fun f => bT f.1).length = _; rw [List.length_map, (objS_perm fs).length_eq]
  simp only [Value.agg.injEq, Array.mk.injEq, List.cons.injEq, and_true, Value.slice.injEq] at e
  obtain ⟨_, _, _, _, rfl, _, rfl⟩ := e
  have h := w_5Has ko kc (objT fs).keys ⟨tx.toArray⟩ u hk a6 a4
  rw [eK, any_objT] at h
  exact h
def RgO (l : List UInt8) (vl : Tok → Nat → Rd VT) (f : Nat) (fs : List (List UInt8 × VT)) (q : Nat) : Rd (List (List UInt8 × VT)) := match mustL l q with
  | .bad e q' => .bad e q'
  | .ok t p1 => match oPt l vl fs t p1 with
    | .bad e q' => .bad e q'
    | .ok y p2 => loopL l 2 (oPt l vl) f y p2
theorem RgO_up {l : List UInt8} {vl : Tok → Nat → Rd VT} {f : Nat} {fs : List (List UInt8 × VT)} {q p1 : Nat} {t : Tok} (hm : mustL l q = .ok t p1) (h6 : t.kind = 6) : loopL l 2 (oPt l vl) (f + 1) fs q = RgO l vl f fs p1 := by
  unfold RgO
  rw [loopL, hm]
  dsimp only
  rw [if_neg (by omega), if_pos h6]
  cases hm2 : mustL l p1 with
  | bad e q' => rfl
  | ok t2 p2 =>
    dsimp only
    cases hv : oPt l vl fs t2 p2 with
    | bad e q' => rfl
    | ok v p3 => rfl
theorem RgO_row {l : List UInt8} {vl : Tok → Nat → Rd VT} {p : Nat} (h : ∀ t p1, mustL l p = .ok t p1 → t.kind ≠ 2) : rowL l 2 (oPt l vl) [] p = RgO l vl (l.length + 1) [] p := by
  unfold RgO rowL
  cases hm : mustL l p with
  | bad e q' => rfl
  | ok t p1 =>
    dsimp only
    rw [if_neg (h t p1 hm)]
    cases hv : oPt l vl [] t p1 with
    | bad e q' => rfl
    | ok v p3 => rfl
def toO (r : Rd (List (List UInt8 × VT))) : Rd VT := match r with
  | .ok fs q => .ok (objT fs) q
  | .bad e q => .bad e q
theorem obL_toO (l : List UInt8) (vl : Tok → Nat → Rd VT) (p : Nat) : obL l vl p = toO (rowL l 2 (oPt l vl) [] p) := by
  unfold obL toO
  cases rowL l 2 (oPt l vl) [] p <;> rfl
theorem rgA {l : List UInt8} {vl : Tok → Nat → Rd VT} {f q er a z : Nat} {fs : List (List UInt8 × VT)} (h : mustL l q = .bad er a ∨ ∃ t, mustL l q = .ok t z ∧ t.kind ≠ 11 ∧ er = 51 ∧ t.at_ = a) : RgO l vl f fs q = .bad er a := by
  unfold RgO
  rcases h with h | ⟨t, h, hk, rfl, rfl⟩
  · rw [h]
  · rw [h]
    dsimp only
    unfold oPt
    rw [if_neg hk]
theorem rgT {l : List UInt8} {vl : Tok → Nat → Rd VT} {f q z : Nat} {fs : List (List UInt8 × VT)} {t : Tok} (h : mustL l q = .ok t z) (hk : t.kind = 11) (ha : (fs.any fun f => f.1 == t.text) = true) : RgO l vl f fs q = .bad 53 t.at_ := by
  unfold RgO
  rw [h]
  dsimp only
  unfold oPt
  rw [if_pos hk, if_pos ha]
theorem rgB {l : List UInt8} {vl : Tok → Nat → Rd VT} {f q z er a z2 : Nat} {fs : List (List UInt8 × VT)} {t : Tok} (h : mustL l q = .ok t z) (hk : t.kind = 11) (ha : (fs.any fun f => f.1 == t.text) = false) (h2 : mustL l z = .bad er a ∨ ∃ t, mustL l z = .ok t z2 ∧ t.kind ≠ 5 ∧ er = 51 ∧ t.at_ = a) : RgO l vl f fs q = .bad er a := by
  unfold RgO
  rw [h]
  dsimp only
  unfold oPt
  rw [if_pos hk, if_neg (by rw [ha]; decide)]
  rcases h2 with h2 | ⟨t2, h2, hk2, rfl, rfl⟩
  · rw [h2]
  · rw [h2]
    dsimp only
    rw [if_neg hk2]
theorem rgC {l : List UInt8} {vl : Tok → Nat → Rd VT} {f q z z2 : Nat} {fs : List (List UInt8 × VT)} {t t2 : Tok} (h : mustL l q = .ok t z) (hk : t.kind = 11) (ha : (fs.any fun f => f.1 == t.text) = false) (h2 : mustL l z = .ok t2 z2) (hk2 : t2.kind = 5) : RgO l vl f fs q = match rdL l vl z2 with
    | .bad e q' => .bad e q'
    | .ok v p3 => loopL l 2 (oPt l vl) f (fs ++ [(t.text, v)]) p3 := by
  unfold RgO
  rw [h]
  dsimp only
  unfold oPt
  rw [if_pos hk, if_neg (by rw [ha]; decide), h2]
  dsimp only
  rw [if_pos hk2]
  unfold rdL
  cases hm : mustL l z2 with
  | bad e q' => rfl
  | ok t3 p3 =>
    dsimp only
    cases hv : vl t3 p3 with
    | bad e q' => rfl
    | ok v p4 => rfl
theorem rgD {l : List UInt8} {vl : Tok → Nat → Rd VT} {f q er a z : Nat} {fs : List (List UInt8 × VT)} (h : mustL l q = .bad er a ∨ ∃ t, mustL l q = .ok t z ∧ t.kind ≠ 2 ∧ t.kind ≠ 6 ∧ er = 51 ∧ t.at_ = a) : loopL l 2 (oPt l vl) (f + 1) fs q = .bad er a := by
  rw [loopL]
  rcases h with h | ⟨t, h, hk, hk2, rfl, rfl⟩
  · rw [h]
  · rw [h]
    dsimp only
    rw [if_neg hk, if_neg hk2]
end Go.Proofs.YtcbngdkekdhfeaaGreatDoor
namespace Go.Proofs.YtcbngdkekdhfeaaGreatDoor
open Go.RowKit Go.Shelf
set_option linter.unusedVariables false
set_option linter.unusedSimpArgs false
attribute [local go_sem] Oper.semAt_some

set_option maxRecDepth 100000 in
set_option maxHeartbeats 6400000 in
theorem w_5with (lo H n : Nat) (fs : List (List UInt8 × VT)) (fk : List UInt8) (T : VT) (w : World) (vv iv : Value) (hlo : lo ≤ w.heap.size) (hfn : fs.length = n) (hn : n + 1 ≤ 16777216) (hkf : fk.length ≤ 140737488355328) (hkl : ∀ g ∈ fs, g.1.length ≤ 140737488355328)
    (hv : InF lo w (H + 1 + 1) (objT fs) vv) (hi : InF lo w (H + 1) T iv) :
    Calls Tryz.prog 61 #[vv, .string ⟨fk.toArray⟩, iv] w fun e w' => Below w.heap.size w w' ∧ ∃ io ic ko kc, e = .returned (.agg #[.int .i64 6, .string ⟨#[]⟩, .string ⟨#[]⟩, .slice io (n + 1) ic, .slice ko (n + 1) kc]) ∧ InF lo w' (H + 1 + 1) (objT (fs ++ [(fk, T)])) (.agg #[.int .i64 6, .string ⟨#[]⟩, .string ⟨#[]⟩, .slice io (n + 1) ic, .slice ko (n + 1) kc]) := by
  obtain ⟨i0, hi0, hz0, hz1, hz2⟩ := info_parts Tryz.infoVr
  obtain ⟨j0, hj0, hy0, hy1, hy2⟩ := info_parts Tryz.infoStr
  obtain ⟨L, hL⟩ : ∃ L, objS fs = L := ⟨_, rfl⟩
  have hLl : L.length = n := by rw [← hL, (objS_perm fs).length_eq, hfn]
  rw [objT_fld, hL] at hv
  obtain ⟨io0, ic0, ko0, kc0, kb, koff, ib, ioff, c, rfl, hic, hkc, hadr, hO⟩ := obO_of hLl hv
  obtain ⟨jo, jc, jk, jkc, rfl, hrest⟩ := id hi
  obtain ⟨N, hN⟩ : ∃ N, insF (fk, T) L = N := ⟨_, rfl⟩
  obtain ⟨m, hm⟩ : ∃ m, lessF (fk, T) L = m := ⟨_, rfl⟩
  have hNl : N.length = n + 1 := by rw [← hN, (insF_perm _ _).length_eq]; show L.length + 1 = _; omega
  have hmn : m ≤ n := by rw [← hm, ← hLl]; exact lessF_le _ _
  obtain ⟨xi, hxi⟩ : ∃ xi : Fin 5 → Value, xi = cV (.agg #[.int .i64 T.kind, .string T.num, .string T.text, .slice jo T.items.length jc, .slice jk T.keys.length jkc]) := ⟨_, rfl⟩
  have HNl := Hid.mk hNl
  have HEnd : Hid (objT (fs ++ [(fk, T)]) = fldT N ∧ (∀ i g, N[i]? = some g → InF lo w (H + 1) g.2 (.agg #[cIns m c xi i 0, cIns m c xi i 1, cIns m c xi i 2, cIns m c xi i 3, cIns m c xi i 4])) ∧ (∀ g ∈ N, g.1.length ≤ 140737488355328)) := by
    refine ⟨by rw [objT_fld, objS_snoc, hL, hN], fun i g hg => ?_, fun g hg => ?_⟩
    · rcases Nat.lt_trichotomy i m with h1 | h1 | h1
      · rw [← hN, insF_lt (by omega)] at hg
        rw [cIns_lt h1]
        exact (hO.item i g hg).2
      · rw [h1, ← hm, ← hN, insF_eq] at hg
        injection hg with hg
        subst hg
        rw [h1, cIns_eq, hxi]
        exact hi
      · obtain ⟨i, rfl⟩ : ∃ j, i = j + 1 := ⟨i - 1, by omega⟩
        rw [← hN, insF_gt (by omega)] at hg
        rw [cIns_gt (by omega)]
        exact (hO.item i g hg).2
    · rw [← hN] at hg
      rcases List.mem_cons.1 ((insF_perm _ _).mem_iff.1 hg) with rfl | hg
      · exact hkf
      · rw [← hL] at hg
        exact hkl g ((objS_perm fs).mem_iff.1 hg)
  have NL : ∀ k, k < m → N[k]? = L[k]? := fun k hk => by rw [← hN]; exact insF_lt (by omega)
  have NG : ∀ k, m ≤ k → N[k + 1]? = L[k]? := fun k hk => by rw [← hN]; exact insF_gt (by omega)
  have LG : ∀ k, k < n → ∃ g, L[k]? = some g := fun k hk => ⟨_, List.getElem?_eq_getElem (by omega)⟩
  have HLt : Hid (∀ k, k < m → ∃ g, L[k]? = some g ∧ Op.bytesLess g.1 fk = true ∧ kyN N k = g.1 ∧ cIns m c xi k = c k) := fun k hk => by
    obtain ⟨g, hg⟩ := LG k (by omega)
    refine ⟨g, hg, ?_, kyN_of ((NL k hk).trans hg), cIns_lt hk⟩
    rw [bytesLess_lt, decide_eq_true_eq]
    exact lessF_lt (fk, T) L k g (by omega) hg
  have HAt : Hid (m < n → ∃ g, L[m]? = some g ∧ Op.bytesLess g.1 fk = false) := fun hk => by
    obtain ⟨g, hg⟩ := LG m hk
    refine ⟨g, hg, ?_⟩
    rw [bytesLess_lt, decide_eq_false_iff_not]
    exact lessF_at (fk, T) L g (by rw [hm]; exact hg)
  have HGt : Hid (∀ k, m ≤ k → k < n → ∃ g, L[k]? = some g ∧ kyN N (k + 1) = g.1 ∧ cIns m c xi (k + 1) = c k) := fun k h1 h2 => by
    obtain ⟨g, hg⟩ := LG k h2
    exact ⟨g, hg, kyN_of ((NG k h1).trans hg), cIns_gt h1⟩
  have HM : Hid (kyN N m = fk ∧ cIns m c xi m = cV (.agg #[.int .i64 T.kind, .string T.num, .string T.text, .slice jo T.items.length jc, .slice jk T.keys.length jkc])) := ⟨kyN_of (g := (fk, T)) (l := N) (i := m) (by rw [← hN, ← hm]; exact insF_eq), by rw [cIns_eq, hxi]⟩
  have HO := Hid.mk hO
  have HAdr := Hid.mk hadr
  clear NL NG LG hv hrest hi hkf hkl hO hadr hN hm hxi hL hLl hfn
  obtain ⟨X, hX⟩ : ∃ X : ByteArray, (⟨fk.toArray⟩ : ByteArray) = X := ⟨_, rfl⟩
  have HX : Hid (X.toList = fk ∧ Value.string X = .string ⟨fk.toArray⟩) := ⟨by rw [← hX, Lib.toList_data], by rw [hX]⟩
  rw [hX]
  clear hX
  obtain ⟨wb, hwb⟩ : ∃ wb, (w.alloc (.cells #[.int .i64 6, .string ⟨#[]⟩, .string ⟨#[]⟩, .slice io0 n ic0, .slice ko0 n kc0] 27)).alloc (.cells #[.int .i64 T.kind, .string T.num, .string T.text, .slice jo T.items.length jc, .slice jk T.keys.length jkc] 27) = wb := ⟨_, rfl⟩
  obtain ⟨W0, hW0⟩ : ∃ W0, (wb.alloc (.cells #[.int .i64 0, .string ⟨#[]⟩, .string ⟨#[]⟩, .slice none 0 0, .slice none 0 0] 27)).alloc (.cells #[.int .i64 6, .string ⟨#[]⟩, .string ⟨#[]⟩, .slice none 0 0, .slice none 0 0] 27) = W0 := ⟨_, rfl⟩
  have hbs : wb.heap.size = w.heap.size + 1 + 1 := by rw [← hwb]; simp
  have hs0 : W0.heap.size = wb.heap.size + 1 + 1 := by rw [← hW0]; simp
  have hbb : Below w.heap.size w wb := by rw [← hwb]; exact (below1 w _).alloc (by simp) _
  have hvb : wb.heap[w.heap.size]? = some (.cells #[.int .i64 6, .string ⟨#[]⟩, .string ⟨#[]⟩, .slice io0 n ic0, .slice ko0 n kc0] 27 (0, 0)) := by rw [← hwb, Below.heap_alloc _ _ _ (by simp), heap_alloc_new]
  have hib : wb.heap[w.heap.size + 1]? = some (.cells #[.int .i64 T.kind, .string T.num, .string T.text, .slice jo T.items.length jc, .slice jk T.keys.length jkc] 27 (0, 0)) := by
    rw [← hwb, show w.heap.size + 1 = (w.alloc (.cells #[.int .i64 6, .string ⟨#[]⟩, .string ⟨#[]⟩, .slice io0 n ic0, .slice ko0 n kc0] 27)).heap.size from by simp, heap_alloc_new]
  have hr0 : W0.heap[wb.heap.size]? = some (.cells #[.int .i64 0, .string ⟨#[]⟩, .string ⟨#[]⟩, .slice none 0 0, .slice none 0 0] 27 (0, 0)) := by rw [← hW0, Below.heap_alloc _ _ _ (by simp), heap_alloc_new]
  have ho0 : W0.heap[wb.heap.size + 1]? = some (.cells #[.int .i64 6, .string ⟨#[]⟩, .string ⟨#[]⟩, .slice none 0 0, .slice none 0 0] 27 (0, 0)) := by
    rw [← hW0, show wb.heap.size + 1 = (wb.alloc (.cells #[.int .i64 0, .string ⟨#[]⟩, .string ⟨#[]⟩, .slice none 0 0, .slice none 0 0] 27)).heap.size from by simp, heap_alloc_new]
  have hb0 : Below wb.heap.size wb W0 := by rw [← hW0]; exact (below1 wb _).alloc (by simp) _
  have HG0 : Hid (GrS wb W0 (kyN N) (cIns m c xi) 0 0 (.slice none 0 0) (.slice none 0 0) W0) := ⟨hb0, fun x _ _ => rfl, by omega, Nat.le_refl _, hr0, ho0, World.ownsRow_nil _ _ _ _, World.ownsRow_nil _ _ _ _⟩
  have HB := Hid.mk (And.intro hbs (And.intro hs0 (And.intro hbb (And.intro hvb hib))))
  have HV : Hid (∀ wr, Below wb.heap.size wb wr → (wr.cell? ⟨w.heap.size, 3, none⟩ = some (.slice io0 n ic0) ∧ wr.cell? ⟨w.heap.size, 4, none⟩ = some (.slice ko0 n kc0)) ∧ wr.heap[w.heap.size + 1]? = some (.cells #[.int .i64 T.kind, .string T.num, .string T.text, .slice jo T.items.length jc, .slice jk T.keys.length jkc] 27 (0, 0)) ∧ (∀ b o v, b < w.heap.size → w.cell? ⟨b, o, none⟩ = some v → wr.cell? ⟨b, o, none⟩ = some v)) := fun wr hb => by
    obtain ⟨x0, x1, x2, x3, x4, _⟩ := vbox_cells ((hb.block w.heap.size (by omega)).trans hvb)
    refine ⟨⟨x3, x4⟩, (hb.block _ (by omega)).trans hib, fun b o v h1 h2 => ?_⟩
    exact (World.cell?_of_block (a := ⟨b, o, none⟩) ((hb.block b (by omega)).trans (hbb.block b h1))).trans h2
  have HWB := Hid.mk (And.intro hwb hW0)
  clear hbs hs0 hbb hvb hib hr0 ho0 hb0 hwb hW0
  go_enter Tryz.func61, Tryz.ntmps61
  go_wp2_with fail
  obtain ⟨hwb, hW0⟩ := HWB.out
  rw [hwb, hW0]
  clear hwb hW0 HWB
  go_loopw [8] (fun i wr => ∃ k : Nat, k ≤ m ∧ i = .int .i64 (k : Int) ∧ Hid (∃ io ic ko kc, GrS wb W0 (kyN N) (cIns m c xi) k k (.slice io k ic) (.slice ko k kc) wr)) (fun i _ => m - (intOf i).toNat)
  case atStart => exact ⟨0, Nat.zero_le _, rfl, ⟨none, 0, none, 0, HG0.out⟩⟩
  case round =>
    clear HG0
    obtain ⟨k, hk, rfl, HQ⟩ := hrel
    obtain ⟨io, ic, ko, kc, hG⟩ := HQ.out
    have HG := Hid.mk hG
    obtain ⟨⟨cv3, cv4⟩, _, hcell⟩ := HV.out wr hG.below
    have hsz : w.heap.size + 1 + 1 + 1 < wr.heap.size := by have h1 := hG.lo; have h2 := hG.le; have h3 := HB.out.1; omega
    have hlew : W0.heap.size ≤ wr.heap.size := hG.le
    have b4 : wr.cell? ⟨w.heap.size + 1 + 1 + 1, 4, none⟩ = some (.slice ko k kc) := by have h := cell_of_row _ _ 4 _ _ _ hG.out; rw [HB.out.1] at h; exact h
    have b3 : wr.cell? ⟨w.heap.size + 1 + 1 + 1, 3, none⟩ = some (.slice io k ic) := by have h := cell_of_row _ _ 3 _ _ _ hG.out; rw [HB.out.1] at h; exact h
    by_cases hlt : k < m
    · skip
      have hl1 : (k : Int) < (n : Int) := by omega
      have hl0 : (0 : Int) ≤ (k : Int) := by omega
      have hnb : k + 1 ≤ maxLen := by unfold maxLen; omega
      obtain ⟨g, hg, hless, hky, hcI⟩ := HLt.out k hlt
      obtain ⟨rfl, rfl⟩ := HAdr.out (by omega)
      have hkb := HO.out.hkb (by have := (List.getElem?_eq_some_iff.1 hg).1; omega)
      have hib := HO.out.hib (by have := (List.getElem?_eq_some_iff.1 hg).1; omega)
      have ck := hcell _ _ _ hkb.2 (HO.out.key k g hg)
      obtain ⟨⟨q0, q1, q2, q3, q4⟩, hIt⟩ := HO.out.item k g hg
      obtain ⟨go, gc, gk, gkc, hsh, _⟩ := hIt
      simp only [Value.agg.injEq, Array.mk.injEq, List.cons.injEq, and_true] at hsh
      obtain ⟨s0, s1, s2, s3, s4⟩ := hsh
      rw [s0] at q0
      rw [s1] at q1
      rw [s2] at q2
      rw [s3] at q3
      rw [s4] at q4
      have HQ5 := Hid.mk (And.intro q0 (And.intro q1 (And.intro q2 (And.intro q3 q4))))
      have HSh : Hid (∀ l : List Value, l ++ [.int .i64 g.2.kind, .string g.2.num, .string g.2.text, .slice go g.2.items.length gc, .slice gk g.2.keys.length gkc] = l ++ [cIns m c xi (k) 0, cIns m c xi (k) 1, cIns m c xi (k) 2, cIns m c xi (k) 3, cIns m c xi (k) 4]) := fun l => by rw [hcI, s0, s1, s2, s3, s4]
      have HIb := Hid.mk hib
      obtain ⟨Y, hY⟩ : ∃ Y : ByteArray, (⟨g.1.toArray⟩ : ByteArray) = Y := ⟨_, rfl⟩
      rw [hY] at ck
      have HY : Hid (Value.string Y = .string ⟨(kyN N (k)).toArray⟩) := by show _ = _; rw [hky, hY]
      have hlss : Op.bytesLess Y.toList X.toList = true := by rw [← hY, Lib.toList_data, HX.out.1]; exact hless
      have hGk := hG.keys
      clear hG hless hcell hkb hib hY hky hcI s0 s1 s2 s3 s4 q0 q1 q2 q3 q4
      go_wp2_with fail
      have ab4 : ∀ o, (wr.alloc o).cell? ⟨w.heap.size + 1 + 1 + 1, 4, none⟩ = some (.slice ko (k) kc) := fun o => (World.cell?_of_block (a := ⟨w.heap.size + 1 + 1 + 1, 4, none⟩) (Below.heap_alloc wr o _ hsz)).trans b4
      have hw0 : w.heap.size < wr.heap.size := by omega
      have acv4 : ∀ o, (wr.alloc o).cell? ⟨w.heap.size, 4, none⟩ = some (.slice (some ⟨kb, koff, none⟩) n kc0) := fun o => (World.cell?_of_block (a := ⟨w.heap.size, 4, none⟩) (Below.heap_alloc wr o _ hw0)).trans cv4
      have HK : Hid (∀ w1 cap' g', (wr.alloc (.cells #[.string Y] 9)).grownBy w1 (Value.slice ko (k) kc).ownBlock → w1.ownsRow W0.heap.size 9 1 (.slice (some ⟨g', 0, none⟩) (k + 1) cap') (k + 1) (kyR (kyN N) (k) ++ [.string Y]) → GrS wb W0 (kyN N) (cIns m c xi) (k + 1) (k) (.slice io (k) ic) (.slice (some ⟨g', 0, none⟩) (k + 1) cap') (w1.setCell ⟨w.heap.size + 1 + 1 + 1, 4, none⟩ (.slice (some ⟨g', 0, none⟩) (k + 1) cap')) ∧ w1.cell? ⟨w.heap.size + 1 + 1 + 1, 4, none⟩ = some (.slice ko (k) kc) ∧ w1.frozen? ⟨w.heap.size + 1 + 1 + 1, 4, none⟩ = false) := fun w1 cap' g' hg' ho' => by
        rw [HY.out] at ho'
        obtain ⟨h1, h2⟩ := GrS.keysUp HG.out hg' ho'
        have h3 := cell_of_row _ _ 4 _ _ _ h2
        have h4 := frozen_rowT (j := 4) h2
        rw [HB.out.1] at h1 h3 h4
        exact ⟨h1, h3, h4⟩
      have KEY : ∀ (g' cap' : Nat) (W5 : World), Hid (GrS wb W0 (kyN N) (cIns m c xi) (k + 1) (k) (.slice io (k) ic) (.slice (some ⟨g', 0, none⟩) (k + 1) cap') W5) → (?PP1 : Nat → Nat → World → Prop) g' cap' W5 := ?key1
      · skip
        go_region_law
          ((refine step_append_lies _ (by rfl) _ _ _ (by rfl) W0.heap.size 9 j0 (.string ⟨#[]⟩) 1 16 Tryz.underlying25 hj0 hy0 hy1 hy2 rfl (by omega) (.slice ko (k) kc) (k) _ (by rfl) ((hGk.alloc _).drew) ⟨wr.heap.size, 0, none⟩ 1 1 [.string Y] (by rfl) (by rfl) (World.news_of_block (cs := #[.string Y]) (t := 9) (fr := (0, 0)) (heap_alloc_new wr _)) (by simp [Value.oneCell']) (by omega) hnb (by omega) (by simp; omega) (wr.heap.size + 1) (by simp) ?_; intro g' cap' w1 hown1 hgrow hat hlt1; obtain ⟨hG5, b44, f44⟩ := HK.out w1 cap' g' ⟨hgrow.os, hgrow.tape, hgrow.output, hgrow.size, hgrow.block⟩ hown1; have HG5 := Hid.mk hG5; clear hG5))
        all_goals clear hown1 hgrow hat hlt1
        all_goals obtain ⟨W5, hW5⟩ : ∃ W5, w1.setCell ⟨w.heap.size + 1 + 1 + 1, 4, none⟩ (.slice (some ⟨g', 0, none⟩) (k + 1) cap') = W5 := ⟨_, rfl⟩
        all_goals have hG5 := HG5.out
        all_goals rw [hW5] at hG5
        all_goals (try rw [hW5])
        all_goals clear HG5 b44 f44 hW5
        all_goals have HG5 := Hid.mk hG5
        all_goals clear hG5
        all_goals exact KEY _ _ _ HG5
      case key1 =>
        intro g' cap' W5 HG5
        clear hGk ab4 acv4 HK b3 b4 cv3 cv4 ck
        have hG5 := HG5.out
        obtain ⟨⟨dv3, dv4⟩, _, dcell⟩ := HV.out W5 hG5.below
        obtain ⟨q0, q1, q2, q3, q4⟩ := HQ5.out
        have e0 := dcell _ _ _ HIb.out.2 q0
        have e1 := dcell _ _ _ HIb.out.2 q1
        have e2 := dcell _ _ _ HIb.out.2 q2
        have e3 := dcell _ _ _ HIb.out.2 q3
        have e4 := dcell _ _ _ HIb.out.2 q4
        have hsz5 : w.heap.size + 1 + 1 + 1 < W5.heap.size := (by have h1 := hG5.lo; have h2 := hG5.le; have h3 := HB.out.1; omega)
        have hlew5 : W0.heap.size ≤ W5.heap.size := hG5.le
        have d3 : W5.cell? ⟨w.heap.size + 1 + 1 + 1, 3, none⟩ = some (.slice io (k) ic) := (by have h := cell_of_row _ _ 3 _ _ _ hG5.out; rw [HB.out.1] at h; exact h)
        have hGi := hG5.items
        have ad3 : ∀ o, (W5.alloc o).cell? ⟨w.heap.size + 1 + 1 + 1, 3, none⟩ = some (.slice io (k) ic) := (fun o => (World.cell?_of_block (a := ⟨w.heap.size + 1 + 1 + 1, 3, none⟩) (Below.heap_alloc W5 o _ hsz5)).trans d3)
        have HK : Hid (∀ w1 cap3 g2, (W5.alloc (.cells #[.int .i64 g.2.kind, .string g.2.num, .string g.2.text, .slice go g.2.items.length gc, .slice gk g.2.keys.length gkc] 27)).grownBy w1 (Value.slice io (k) ic).ownBlock → w1.ownsRow W0.heap.size 27 5 (.slice (some ⟨g2, 0, none⟩) (k + 1) cap3) (k + 1) (flat (cIns m c xi) (k) ++ [.int .i64 g.2.kind, .string g.2.num, .string g.2.text, .slice go g.2.items.length gc, .slice gk g.2.keys.length gkc]) → GrS wb W0 (kyN N) (cIns m c xi) (k + 1) (k + 1) (.slice (some ⟨g2, 0, none⟩) (k + 1) cap3) (.slice (some ⟨g', 0, none⟩) (k + 1) cap') (w1.setCell ⟨w.heap.size + 1 + 1 + 1, 3, none⟩ (.slice (some ⟨g2, 0, none⟩) (k + 1) cap3)) ∧ w1.cell? ⟨w.heap.size + 1 + 1 + 1, 3, none⟩ = some (.slice io (k) ic) ∧ w1.frozen? ⟨w.heap.size + 1 + 1 + 1, 3, none⟩ = false) := (fun w1 cap3 g2 hg' ho' => by
          rw [HSh.out] at ho'
          obtain ⟨h1, h2⟩ := GrS.itemsUp HG5.out hg' ho'
          have h3 := cell_of_row _ _ 3 _ _ _ h2
          have h4 := frozen_rowT (j := 3) h2
          rw [HB.out.1] at h1 h3 h4
          exact ⟨h1, h3, h4⟩)
        clear hG5 q0 q1 q2 q3 q4 dcell dv4 hsz hlew hw0
        go_wp2_with fail
        (go_region_law
          ((refine step_append_lies _ (by rfl) _ _ _ (by rfl) W0.heap.size 27 i0 (.agg #[.int .i64 0, .string ⟨#[]⟩, .string ⟨#[]⟩, .slice none 0 0, .slice none 0 0]) 5 88 Tryz.underlying24 hi0 hz0 hz1 hz2 rfl (by omega) (.slice io (k) ic) (k) _ (by rfl) ((hGi.alloc _).drew) ⟨W5.heap.size, 0, none⟩ 1 1 [.int .i64 g.2.kind, .string g.2.num, .string g.2.text, .slice go g.2.items.length gc, .slice gk g.2.keys.length gkc] (by rfl) (by rfl) (World.news_of_block (cs := #[.int .i64 g.2.kind, .string g.2.num, .string g.2.text, .slice go g.2.items.length gc, .slice gk g.2.keys.length gkc]) (t := 27) (fr := (0, 0)) (heap_alloc_new W5 _)) (by simp [Value.oneCell']) (by omega) hnb (by omega) (by simp; omega) (W5.heap.size + 1) (by simp) ?_; intro g2 cap2 w2 hown1 hgrow hat hlt1; obtain ⟨hG6, b66, f66⟩ := HK.out w2 cap2 g2 ⟨hgrow.os, hgrow.tape, hgrow.output, hgrow.size, hgrow.block⟩ hown1; have HG6 := Hid.mk hG6; clear hG6)))
        all_goals clear hGi ad3 HK d3 dv3 e0 e1 e2 e3 e4 hown1 hgrow hat hlt1 b66 f66
        all_goals go_wp2_with fail
        all_goals go_roundw
        all_goals first | (case rel => exact ⟨k + 1, hlt, by go_num, ⟨_, _, _, _, HG6.out⟩⟩) | skip
        all_goals simp [intOf]
        all_goals omega
    · obtain rfl : m = k := by omega
      clear hlt hk
      by_cases hmn2 : m < n
      · have hl1 : (m : Int) < (n : Int) := by omega
        have hl0 : (0 : Int) ≤ (m : Int) := by omega
        obtain ⟨g, hg, hless⟩ := HAt.out hmn2
        obtain ⟨rfl, rfl⟩ := HAdr.out (by omega)
        have hkb := HO.out.hkb (by have := (List.getElem?_eq_some_iff.1 hg).1; omega)
        have ck := hcell _ _ _ hkb.2 (HO.out.key m g hg)
        obtain ⟨Y, hY⟩ : ∃ Y : ByteArray, (⟨g.1.toArray⟩ : ByteArray) = Y := ⟨_, rfl⟩
        rw [hY] at ck
        have hlss : Op.bytesLess Y.toList X.toList = false := by rw [← hY, Lib.toList_data, HX.out.1]; exact hless
        have hGk := hG.keys
        have hnb : m + 1 ≤ maxLen := by unfold maxLen; omega
        clear hG hcell hless hkb hY hg
        go_wp2_with (at_builtin; refine wpList_append_own_at _ (by rfl) _ _ 25 (by rfl) W0.heap.size 9 j0 (.string ⟨#[]⟩) 1 16 Tryz.underlying25 hj0 hy0 hy1 hy2 rfl (by decide) _ _ _ (by rfl) (hGk.alloc _) ⟨wr.heap.size, 0, none⟩ 1 1 [.string X] (by rfl) (by rfl) (World.news_of_block (cs := #[.string X]) (fr := (0, 0)) (heap_alloc_new wr _)) (by simp [Value.oneCell']) (by unfold maxLen; omega) (by omega) (by simp; omega) ?_)
        intro vk' w4 hown4 hgrow4 hnil4 hat4
        obtain ⟨gk', ck', hvk'⟩ := own_succR hown4
        subst hvk'
        have eX : Value.string X = .string ⟨(kyN N m).toArray⟩ := by rw [HX.out.2, HM.out.1]
        rw [eX] at hown4
        obtain ⟨hG5, ho4⟩ := GrS.keysUp HG.out hgrow4 hown4
        have b44 := cell_of_row _ _ 4 _ _ _ ho4
        have f44 := frozen_rowT (j := 4) ho4
        rw [HB.out.1] at b44 f44 hG5
        obtain ⟨W5, hW5⟩ : ∃ W5, w4.setCell ⟨w.heap.size + 1 + 1 + 1, 4, none⟩ (.slice (some ⟨gk', 0, none⟩) (m + 1) ck') = W5 := ⟨_, rfl⟩
        rw [hW5] at hG5
        have m3 : W5.cell? ⟨w.heap.size + 1 + 1 + 1, 3, none⟩ = some (.slice io m ic) := by have h := cell_of_row _ _ 3 _ _ _ hG5.out; rw [HB.out.1] at h; exact h
        have HG5 := Hid.mk hG5
        have hsz5 : w.heap.size + 1 + 1 + 1 < W5.heap.size := by have h1 := hG5.lo; have h2 := hG5.le; have h3 := HB.out.1; omega
        have hlew5 : W0.heap.size ≤ W5.heap.size := hG5.le
        have hit := hG5.items
        obtain ⟨_, hbI, _⟩ := HV.out W5 hG5.below
        obtain ⟨z0, z1, z2, z3, z4, _, _, _, _, _⟩ := vbox_cells hbI
        clear eX hgrow4 hown4 hnil4 hat4 hG5 b3 b4 hGk cv3 cv4 hbI ho4
        go_wp2_with (at_builtin; refine wpList_append_own_at _ (by rfl) _ _ 24 (by rfl) W0.heap.size 27 i0 (.agg #[.int .i64 0, .string ⟨#[]⟩, .string ⟨#[]⟩, .slice none 0 0, .slice none 0 0]) 5 88 Tryz.underlying24 hi0 hz0 hz1 hz2 rfl (by decide) _ _ _ (by rfl) (hit.alloc _) ⟨W5.heap.size, 0, none⟩ 1 1 [.int .i64 T.kind, .string T.num, .string T.text, .slice jo T.items.length jc, .slice jk T.keys.length jkc] (by rfl) (by rfl) (World.news_of_block (cs := #[.int .i64 T.kind, .string T.num, .string T.text, .slice jo T.items.length jc, .slice jk T.keys.length jkc]) (fr := (0, 0)) (heap_alloc_new W5 _)) (by simp [Value.oneCell']) (by unfold maxLen; omega) (by omega) (by simp; omega) ?_)
        intro vi' w6 hown6 hgrow6 hnil6 hat6
        obtain ⟨gi', ci', hvi'⟩ := own_succR hown6
        subst hvi'
        have hcv : flat (cIns m c xi) m ++ [.int .i64 T.kind, .string T.num, .string T.text, .slice jo T.items.length jc, .slice jk T.keys.length jkc] = flat (cIns m c xi) m ++ [cIns m c xi m 0, cIns m c xi m 1, cIns m c xi m 2, cIns m c xi m 3, cIns m c xi m 4] := by rw [HM.out.2]; rfl
        rw [hcv] at hown6
        obtain ⟨hG8, ho6⟩ := GrS.itemsUp HG5.out hgrow6 hown6
        have b63 := cell_of_row _ _ 3 _ _ _ ho6
        have f63 := frozen_rowT (j := 3) ho6
        rw [HB.out.1] at b63 f63 hG8
        have HG8 := Hid.mk hG8
        clear hG8 hgrow6 hown6 hnil6 hat6 hcv hit ho6 HG HG5 m3 z0 z1 z2 z3 z4 b44 f44 HQ
        go_wp2_with fail
        clear b63 f63
        clear ck hlss hl0 hl1
        go_loopw [8] (fun i wr => ∃ k : Nat, m ≤ k ∧ k ≤ n ∧ i = .int .i64 (k : Int) ∧ Hid (∃ io ic ko kc, GrS wb W0 (kyN N) (cIns m c xi) (k + 1) (k + 1) (.slice io (k + 1) ic) (.slice ko (k + 1) kc) wr)) (fun i _ => n - (intOf i).toNat)
        case atStart => exact ⟨m, Nat.le_refl _, hmn, rfl, ⟨_, _, _, _, HG8.out⟩⟩
        case round =>
          clear HG8
          obtain ⟨k, hmk, hk, rfl, HQ⟩ := hrel
          obtain ⟨io, ic, ko, kc, hG⟩ := HQ.out
          have HG := Hid.mk hG
          obtain ⟨⟨cv3, cv4⟩, _, hcell⟩ := HV.out wr hG.below
          have hsz : w.heap.size + 1 + 1 + 1 < wr.heap.size := by have h1 := hG.lo; have h2 := hG.le; have h3 := HB.out.1; omega
          have hlew : W0.heap.size ≤ wr.heap.size := hG.le
          have b4 : wr.cell? ⟨w.heap.size + 1 + 1 + 1, 4, none⟩ = some (.slice ko (k + 1) kc) := by have h := cell_of_row _ _ 4 _ _ _ hG.out; rw [HB.out.1] at h; exact h
          have b3 : wr.cell? ⟨w.heap.size + 1 + 1 + 1, 3, none⟩ = some (.slice io (k + 1) ic) := by have h := cell_of_row _ _ 3 _ _ _ hG.out; rw [HB.out.1] at h; exact h
          by_cases hlt : k < n
          · skip
            have hl1 : (k : Int) < (n : Int) := by omega
            have hl0 : (0 : Int) ≤ (k : Int) := by omega
            have hnb : k + 1 + 1 ≤ maxLen := by unfold maxLen; omega
            obtain ⟨g, hg, hky, hcI⟩ := HGt.out k hmk hlt
            have hkb := HO.out.hkb (by have := (List.getElem?_eq_some_iff.1 hg).1; omega)
            have hib := HO.out.hib (by have := (List.getElem?_eq_some_iff.1 hg).1; omega)
            have ck := hcell _ _ _ hkb.2 (HO.out.key k g hg)
            obtain ⟨⟨q0, q1, q2, q3, q4⟩, hIt⟩ := HO.out.item k g hg
            obtain ⟨go, gc, gk, gkc, hsh, _⟩ := hIt
            simp only [Value.agg.injEq, Array.mk.injEq, List.cons.injEq, and_true] at hsh
            obtain ⟨s0, s1, s2, s3, s4⟩ := hsh
            rw [s0] at q0
            rw [s1] at q1
            rw [s2] at q2
            rw [s3] at q3
            rw [s4] at q4
            have HQ5 := Hid.mk (And.intro q0 (And.intro q1 (And.intro q2 (And.intro q3 q4))))
            have HSh : Hid (∀ l : List Value, l ++ [.int .i64 g.2.kind, .string g.2.num, .string g.2.text, .slice go g.2.items.length gc, .slice gk g.2.keys.length gkc] = l ++ [cIns m c xi (k + 1) 0, cIns m c xi (k + 1) 1, cIns m c xi (k + 1) 2, cIns m c xi (k + 1) 3, cIns m c xi (k + 1) 4]) := fun l => by rw [hcI, s0, s1, s2, s3, s4]
            have HIb := Hid.mk hib
            obtain ⟨Y, hY⟩ : ∃ Y : ByteArray, (⟨g.1.toArray⟩ : ByteArray) = Y := ⟨_, rfl⟩
            rw [hY] at ck
            have HY : Hid (Value.string Y = .string ⟨(kyN N (k + 1)).toArray⟩) := by show _ = _; rw [hky, hY]
            have hGk := hG.keys
            clear hG hcell hkb hib hY hky hcI s0 s1 s2 s3 s4 q0 q1 q2 q3 q4
            go_wp2_with fail
            have ab4 : ∀ o, (wr.alloc o).cell? ⟨w.heap.size + 1 + 1 + 1, 4, none⟩ = some (.slice ko (k + 1) kc) := fun o => (World.cell?_of_block (a := ⟨w.heap.size + 1 + 1 + 1, 4, none⟩) (Below.heap_alloc wr o _ hsz)).trans b4
            have hw0 : w.heap.size < wr.heap.size := by omega
            have acv4 : ∀ o, (wr.alloc o).cell? ⟨w.heap.size, 4, none⟩ = some (.slice (some ⟨kb, koff, none⟩) n kc0) := fun o => (World.cell?_of_block (a := ⟨w.heap.size, 4, none⟩) (Below.heap_alloc wr o _ hw0)).trans cv4
            have HK : Hid (∀ w1 cap' g', (wr.alloc (.cells #[.string Y] 9)).grownBy w1 (Value.slice ko (k + 1) kc).ownBlock → w1.ownsRow W0.heap.size 9 1 (.slice (some ⟨g', 0, none⟩) (k + 1 + 1) cap') (k + 1 + 1) (kyR (kyN N) (k + 1) ++ [.string Y]) → GrS wb W0 (kyN N) (cIns m c xi) (k + 1 + 1) (k + 1) (.slice io (k + 1) ic) (.slice (some ⟨g', 0, none⟩) (k + 1 + 1) cap') (w1.setCell ⟨w.heap.size + 1 + 1 + 1, 4, none⟩ (.slice (some ⟨g', 0, none⟩) (k + 1 + 1) cap')) ∧ w1.cell? ⟨w.heap.size + 1 + 1 + 1, 4, none⟩ = some (.slice ko (k + 1) kc) ∧ w1.frozen? ⟨w.heap.size + 1 + 1 + 1, 4, none⟩ = false) := fun w1 cap' g' hg' ho' => by
              rw [HY.out] at ho'
              obtain ⟨h1, h2⟩ := GrS.keysUp HG.out hg' ho'
              have h3 := cell_of_row _ _ 4 _ _ _ h2
              have h4 := frozen_rowT (j := 4) h2
              rw [HB.out.1] at h1 h3 h4
              exact ⟨h1, h3, h4⟩
            have KEY : ∀ (g' cap' : Nat) (W5 : World), Hid (GrS wb W0 (kyN N) (cIns m c xi) (k + 1 + 1) (k + 1) (.slice io (k + 1) ic) (.slice (some ⟨g', 0, none⟩) (k + 1 + 1) cap') W5) → (?PP2 : Nat → Nat → World → Prop) g' cap' W5 := ?key2
            · skip
              go_region_law
                ((refine step_append_lies _ (by rfl) _ _ _ (by rfl) W0.heap.size 9 j0 (.string ⟨#[]⟩) 1 16 Tryz.underlying25 hj0 hy0 hy1 hy2 rfl (by omega) (.slice ko (k + 1) kc) (k + 1) _ (by rfl) ((hGk.alloc _).drew) ⟨wr.heap.size, 0, none⟩ 1 1 [.string Y] (by rfl) (by rfl) (World.news_of_block (cs := #[.string Y]) (t := 9) (fr := (0, 0)) (heap_alloc_new wr _)) (by simp [Value.oneCell']) (by omega) hnb (by omega) (by simp; omega) (wr.heap.size + 1) (by simp) ?_; intro g' cap' w1 hown1 hgrow hat hlt1; obtain ⟨hG5, b44, f44⟩ := HK.out w1 cap' g' ⟨hgrow.os, hgrow.tape, hgrow.output, hgrow.size, hgrow.block⟩ hown1; have HG5 := Hid.mk hG5; clear hG5))
              all_goals clear hown1 hgrow hat hlt1
              all_goals obtain ⟨W5, hW5⟩ : ∃ W5, w1.setCell ⟨w.heap.size + 1 + 1 + 1, 4, none⟩ (.slice (some ⟨g', 0, none⟩) (k + 1 + 1) cap') = W5 := ⟨_, rfl⟩
              all_goals have hG5 := HG5.out
              all_goals rw [hW5] at hG5
              all_goals (try rw [hW5])
              all_goals clear HG5 b44 f44 hW5
              all_goals have HG5 := Hid.mk hG5
              all_goals clear hG5
              all_goals exact KEY _ _ _ HG5
            case key2 =>
              intro g' cap' W5 HG5
              clear hGk ab4 acv4 HK b3 b4 cv3 cv4 ck
              have hG5 := HG5.out
              obtain ⟨⟨dv3, dv4⟩, _, dcell⟩ := HV.out W5 hG5.below
              obtain ⟨q0, q1, q2, q3, q4⟩ := HQ5.out
              have e0 := dcell _ _ _ HIb.out.2 q0
              have e1 := dcell _ _ _ HIb.out.2 q1
              have e2 := dcell _ _ _ HIb.out.2 q2
              have e3 := dcell _ _ _ HIb.out.2 q3
              have e4 := dcell _ _ _ HIb.out.2 q4
              have hsz5 : w.heap.size + 1 + 1 + 1 < W5.heap.size := (by have h1 := hG5.lo; have h2 := hG5.le; have h3 := HB.out.1; omega)
              have hlew5 : W0.heap.size ≤ W5.heap.size := hG5.le
              have d3 : W5.cell? ⟨w.heap.size + 1 + 1 + 1, 3, none⟩ = some (.slice io (k + 1) ic) := (by have h := cell_of_row _ _ 3 _ _ _ hG5.out; rw [HB.out.1] at h; exact h)
              have hGi := hG5.items
              have ad3 : ∀ o, (W5.alloc o).cell? ⟨w.heap.size + 1 + 1 + 1, 3, none⟩ = some (.slice io (k + 1) ic) := (fun o => (World.cell?_of_block (a := ⟨w.heap.size + 1 + 1 + 1, 3, none⟩) (Below.heap_alloc W5 o _ hsz5)).trans d3)
              have HK : Hid (∀ w1 cap3 g2, (W5.alloc (.cells #[.int .i64 g.2.kind, .string g.2.num, .string g.2.text, .slice go g.2.items.length gc, .slice gk g.2.keys.length gkc] 27)).grownBy w1 (Value.slice io (k + 1) ic).ownBlock → w1.ownsRow W0.heap.size 27 5 (.slice (some ⟨g2, 0, none⟩) (k + 1 + 1) cap3) (k + 1 + 1) (flat (cIns m c xi) (k + 1) ++ [.int .i64 g.2.kind, .string g.2.num, .string g.2.text, .slice go g.2.items.length gc, .slice gk g.2.keys.length gkc]) → GrS wb W0 (kyN N) (cIns m c xi) (k + 1 + 1) (k + 1 + 1) (.slice (some ⟨g2, 0, none⟩) (k + 1 + 1) cap3) (.slice (some ⟨g', 0, none⟩) (k + 1 + 1) cap') (w1.setCell ⟨w.heap.size + 1 + 1 + 1, 3, none⟩ (.slice (some ⟨g2, 0, none⟩) (k + 1 + 1) cap3)) ∧ w1.cell? ⟨w.heap.size + 1 + 1 + 1, 3, none⟩ = some (.slice io (k + 1) ic) ∧ w1.frozen? ⟨w.heap.size + 1 + 1 + 1, 3, none⟩ = false) := (fun w1 cap3 g2 hg' ho' => by
                rw [HSh.out] at ho'
                obtain ⟨h1, h2⟩ := GrS.itemsUp HG5.out hg' ho'
                have h3 := cell_of_row _ _ 3 _ _ _ h2
                have h4 := frozen_rowT (j := 3) h2
                rw [HB.out.1] at h1 h3 h4
                exact ⟨h1, h3, h4⟩)
              clear hG5 q0 q1 q2 q3 q4 dcell dv4 hsz hlew hw0
              go_wp2_with fail
              (go_region_law
                ((refine step_append_lies _ (by rfl) _ _ _ (by rfl) W0.heap.size 27 i0 (.agg #[.int .i64 0, .string ⟨#[]⟩, .string ⟨#[]⟩, .slice none 0 0, .slice none 0 0]) 5 88 Tryz.underlying24 hi0 hz0 hz1 hz2 rfl (by omega) (.slice io (k + 1) ic) (k + 1) _ (by rfl) ((hGi.alloc _).drew) ⟨W5.heap.size, 0, none⟩ 1 1 [.int .i64 g.2.kind, .string g.2.num, .string g.2.text, .slice go g.2.items.length gc, .slice gk g.2.keys.length gkc] (by rfl) (by rfl) (World.news_of_block (cs := #[.int .i64 g.2.kind, .string g.2.num, .string g.2.text, .slice go g.2.items.length gc, .slice gk g.2.keys.length gkc]) (t := 27) (fr := (0, 0)) (heap_alloc_new W5 _)) (by simp [Value.oneCell']) (by omega) hnb (by omega) (by simp; omega) (W5.heap.size + 1) (by simp) ?_; intro g2 cap2 w2 hown1 hgrow hat hlt1; obtain ⟨hG6, b66, f66⟩ := HK.out w2 cap2 g2 ⟨hgrow.os, hgrow.tape, hgrow.output, hgrow.size, hgrow.block⟩ hown1; have HG6 := Hid.mk hG6; clear hG6)))
              all_goals clear hGi ad3 HK d3 dv3 e0 e1 e2 e3 e4 hown1 hgrow hat hlt1 b66 f66
              all_goals go_wp2_with fail
              all_goals go_roundw
              all_goals first | (case rel => exact ⟨k + 1, by omega, hlt, by go_num, ⟨_, _, _, _, HG6.out⟩⟩) | skip
              all_goals simp [intOf]
              all_goals omega
          · skip
            obtain rfl : k = n := by omega
            have hl1 : ¬ ((k : Nat) : Int) < (k : Int) := by omega
            obtain ⟨t0, t1, t2, t3, t4, _⟩ := vbox_cells hG.out
            obtain ⟨r0, r1, r2, r3, r4, f0, f1, f2, f3, f4⟩ := vbox_cells hG.res
            rw [HB.out.1] at t0 t1 t2 t3 t4 r0 r1 r2 r3 r4 f0 f1 f2 f3 f4
            have HRes := Hid.mk hG.res
            clear hG b3 b4 hcell
            go_wp2_with fail
            generalize hz5 : ((((wr.setCell ⟨w.heap.size + 1 + 1, 0, none⟩ (.int .i64 6)).setCell ⟨w.heap.size + 1 + 1, 1, none⟩ (.string ⟨#[]⟩)).setCell ⟨w.heap.size + 1 + 1, 2, none⟩ (.string ⟨#[]⟩)).setCell ⟨w.heap.size + 1 + 1, 3, none⟩ (.slice io (k + 1) ic)).setCell ⟨w.heap.size + 1 + 1, 4, none⟩ (.slice ko (k + 1) kc) = wz
            have hres := HRes.out
            rw [HB.out.1] at hres
            obtain ⟨e5, k5, s5⟩ := rbox_set5 wr _ _ _ _ _ _ _ _ _ _ _ _ hres wz hz5.symm
            obtain ⟨d0, d1, d2, d3, d4, _⟩ := vbox_cells e5
            have hbw : Below w.heap.size w wr := HB.out.2.2.1.trans (HG.out.below.mono (by have := HB.out.1; omega))
            have hbz : Below w.heap.size w wz := by rw [← hz5]; exact ((((hbw.setCell (p := ⟨w.heap.size + 1 + 1, 0, none⟩) (by show w.heap.size ≤ w.heap.size + 1 + 1; omega) _).setCell (p := ⟨w.heap.size + 1 + 1, 1, none⟩) (by show w.heap.size ≤ w.heap.size + 1 + 1; omega) _).setCell (p := ⟨w.heap.size + 1 + 1, 2, none⟩) (by show w.heap.size ≤ w.heap.size + 1 + 1; omega) _).setCell (p := ⟨w.heap.size + 1 + 1, 3, none⟩) (by show w.heap.size ≤ w.heap.size + 1 + 1; omega) _).setCell (p := ⟨w.heap.size + 1 + 1, 4, none⟩) (by show w.heap.size ≤ w.heap.size + 1 + 1; omega) _
            refine bodyPost_ret (v := .agg #[.int .i64 6, .string ⟨#[]⟩, .string ⟨#[]⟩, .slice io (k + 1) ic, .slice ko (k + 1) kc]) (by simp [results, Tryz.results61, go_sem, d0, d1, d2, d3, d4]) rfl ?_
            refine ⟨hbz, io, ic, ko, kc, rfl, ?_⟩
            rw [HEnd.out.1]
            exact gr_done2 (w := wb) (by have := HB.out.1; omega) HNl.out (by omega) HEnd.out.2.2 (fun i g hg => kyN_of hg) (fun i g hg => (HEnd.out.2.1 i g hg).low HB.out.2.2.1) HG.out (by omega) (fun b _ _ hb => k5 b (by rw [HB.out.1] at hb; exact hb))
      · have hl1 : ¬ (m : Int) < (n : Int) := by omega
        have HMN : Hid (m = n) := by show _ = _; omega
        have hGk := hG.keys
        have hnb : m + 1 ≤ maxLen := by unfold maxLen; omega
        clear hG hcell 
        go_wp2_with (at_builtin; refine wpList_append_own_at _ (by rfl) _ _ 25 (by rfl) W0.heap.size 9 j0 (.string ⟨#[]⟩) 1 16 Tryz.underlying25 hj0 hy0 hy1 hy2 rfl (by decide) _ _ _ (by rfl) (hGk.alloc _) ⟨wr.heap.size, 0, none⟩ 1 1 [.string X] (by rfl) (by rfl) (World.news_of_block (cs := #[.string X]) (fr := (0, 0)) (heap_alloc_new wr _)) (by simp [Value.oneCell']) (by unfold maxLen; omega) (by omega) (by simp; omega) ?_)
        intro vk' w4 hown4 hgrow4 hnil4 hat4
        obtain ⟨gk', ck', hvk'⟩ := own_succR hown4
        subst hvk'
        have eX : Value.string X = .string ⟨(kyN N m).toArray⟩ := by rw [HX.out.2, HM.out.1]
        rw [eX] at hown4
        obtain ⟨hG5, ho4⟩ := GrS.keysUp HG.out hgrow4 hown4
        have b44 := cell_of_row _ _ 4 _ _ _ ho4
        have f44 := frozen_rowT (j := 4) ho4
        rw [HB.out.1] at b44 f44 hG5
        obtain ⟨W5, hW5⟩ : ∃ W5, w4.setCell ⟨w.heap.size + 1 + 1 + 1, 4, none⟩ (.slice (some ⟨gk', 0, none⟩) (m + 1) ck') = W5 := ⟨_, rfl⟩
        rw [hW5] at hG5
        have m3 : W5.cell? ⟨w.heap.size + 1 + 1 + 1, 3, none⟩ = some (.slice io m ic) := by have h := cell_of_row _ _ 3 _ _ _ hG5.out; rw [HB.out.1] at h; exact h
        have HG5 := Hid.mk hG5
        have hsz5 : w.heap.size + 1 + 1 + 1 < W5.heap.size := by have h1 := hG5.lo; have h2 := hG5.le; have h3 := HB.out.1; omega
        have hlew5 : W0.heap.size ≤ W5.heap.size := hG5.le
        have hit := hG5.items
        obtain ⟨_, hbI, _⟩ := HV.out W5 hG5.below
        obtain ⟨z0, z1, z2, z3, z4, _, _, _, _, _⟩ := vbox_cells hbI
        clear eX hgrow4 hown4 hnil4 hat4 hG5 b3 b4 hGk cv3 cv4 hbI ho4
        go_wp2_with (at_builtin; refine wpList_append_own_at _ (by rfl) _ _ 24 (by rfl) W0.heap.size 27 i0 (.agg #[.int .i64 0, .string ⟨#[]⟩, .string ⟨#[]⟩, .slice none 0 0, .slice none 0 0]) 5 88 Tryz.underlying24 hi0 hz0 hz1 hz2 rfl (by decide) _ _ _ (by rfl) (hit.alloc _) ⟨W5.heap.size, 0, none⟩ 1 1 [.int .i64 T.kind, .string T.num, .string T.text, .slice jo T.items.length jc, .slice jk T.keys.length jkc] (by rfl) (by rfl) (World.news_of_block (cs := #[.int .i64 T.kind, .string T.num, .string T.text, .slice jo T.items.length jc, .slice jk T.keys.length jkc]) (fr := (0, 0)) (heap_alloc_new W5 _)) (by simp [Value.oneCell']) (by unfold maxLen; omega) (by omega) (by simp; omega) ?_)
        intro vi' w6 hown6 hgrow6 hnil6 hat6
        obtain ⟨gi', ci', hvi'⟩ := own_succR hown6
        subst hvi'
        have hcv : flat (cIns m c xi) m ++ [.int .i64 T.kind, .string T.num, .string T.text, .slice jo T.items.length jc, .slice jk T.keys.length jkc] = flat (cIns m c xi) m ++ [cIns m c xi m 0, cIns m c xi m 1, cIns m c xi m 2, cIns m c xi m 3, cIns m c xi m 4] := by rw [HM.out.2]; rfl
        rw [hcv] at hown6
        obtain ⟨hG8, ho6⟩ := GrS.itemsUp HG5.out hgrow6 hown6
        have b63 := cell_of_row _ _ 3 _ _ _ ho6
        have f63 := frozen_rowT (j := 3) ho6
        rw [HB.out.1] at b63 f63 hG8
        have HG8 := Hid.mk hG8
        clear hG8 hgrow6 hown6 hnil6 hat6 hcv hit ho6 HG HG5 m3 z0 z1 z2 z3 z4 b44 f44 HQ
        go_wp2_with fail
        clear b63 f63
        clear hl1
        go_loopw [8] (fun i wr => i = .int .i64 (n : Int) ∧ Hid (∃ io ic ko kc, GrS wb W0 (kyN N) (cIns m c xi) (n + 1) (n + 1) (.slice io (n + 1) ic) (.slice ko (n + 1) kc) wr)) (fun i _ => n - (intOf i).toNat)
        case atStart =>
          refine ⟨by rw [← HMN.out], ?_⟩
          have h := HG8.out
          have e : m + 1 = n + 1 := by rw [HMN.out]
          rw [e] at h ⊢
          exact ⟨_, _, _, _, h⟩
        case round =>
          clear HG8
          obtain ⟨rfl, HQ⟩ := hrel
          obtain ⟨io, ic, ko, kc, hG⟩ := HQ.out
          have HG := Hid.mk hG
          obtain ⟨⟨cv3, cv4⟩, _, hcell⟩ := HV.out wr hG.below
          have hsz : w.heap.size + 1 + 1 + 1 < wr.heap.size := by have h1 := hG.lo; have h2 := hG.le; have h3 := HB.out.1; omega
          have hlew : W0.heap.size ≤ wr.heap.size := hG.le
          have b4 : wr.cell? ⟨w.heap.size + 1 + 1 + 1, 4, none⟩ = some (.slice ko (n + 1) kc) := by have h := cell_of_row _ _ 4 _ _ _ hG.out; rw [HB.out.1] at h; exact h
          have b3 : wr.cell? ⟨w.heap.size + 1 + 1 + 1, 3, none⟩ = some (.slice io (n + 1) ic) := by have h := cell_of_row _ _ 3 _ _ _ hG.out; rw [HB.out.1] at h; exact h
          have hl1 : ¬ ((n : Nat) : Int) < (n : Int) := by omega
          obtain ⟨t0, t1, t2, t3, t4, _⟩ := vbox_cells hG.out
          obtain ⟨r0, r1, r2, r3, r4, f0, f1, f2, f3, f4⟩ := vbox_cells hG.res
          rw [HB.out.1] at t0 t1 t2 t3 t4 r0 r1 r2 r3 r4 f0 f1 f2 f3 f4
          have HRes := Hid.mk hG.res
          clear hG b3 b4 hcell
          go_wp2_with fail
          generalize hz5 : ((((wr.setCell ⟨w.heap.size + 1 + 1, 0, none⟩ (.int .i64 6)).setCell ⟨w.heap.size + 1 + 1, 1, none⟩ (.string ⟨#[]⟩)).setCell ⟨w.heap.size + 1 + 1, 2, none⟩ (.string ⟨#[]⟩)).setCell ⟨w.heap.size + 1 + 1, 3, none⟩ (.slice io (n + 1) ic)).setCell ⟨w.heap.size + 1 + 1, 4, none⟩ (.slice ko (n + 1) kc) = wz
          have hres := HRes.out
          rw [HB.out.1] at hres
          obtain ⟨e5, k5, s5⟩ := rbox_set5 wr _ _ _ _ _ _ _ _ _ _ _ _ hres wz hz5.symm
          obtain ⟨d0, d1, d2, d3, d4, _⟩ := vbox_cells e5
          have hbw : Below w.heap.size w wr := HB.out.2.2.1.trans (HG.out.below.mono (by have := HB.out.1; omega))
          have hbz : Below w.heap.size w wz := by rw [← hz5]; exact ((((hbw.setCell (p := ⟨w.heap.size + 1 + 1, 0, none⟩) (by show w.heap.size ≤ w.heap.size + 1 + 1; omega) _).setCell (p := ⟨w.heap.size + 1 + 1, 1, none⟩) (by show w.heap.size ≤ w.heap.size + 1 + 1; omega) _).setCell (p := ⟨w.heap.size + 1 + 1, 2, none⟩) (by show w.heap.size ≤ w.heap.size + 1 + 1; omega) _).setCell (p := ⟨w.heap.size + 1 + 1, 3, none⟩) (by show w.heap.size ≤ w.heap.size + 1 + 1; omega) _).setCell (p := ⟨w.heap.size + 1 + 1, 4, none⟩) (by show w.heap.size ≤ w.heap.size + 1 + 1; omega) _
          refine bodyPost_ret (v := .agg #[.int .i64 6, .string ⟨#[]⟩, .string ⟨#[]⟩, .slice io (n + 1) ic, .slice ko (n + 1) kc]) (by simp [results, Tryz.results61, go_sem, d0, d1, d2, d3, d4]) rfl ?_
          refine ⟨hbz, io, ic, ko, kc, rfl, ?_⟩
          rw [HEnd.out.1]
          exact gr_done2 (w := wb) (by have := HB.out.1; omega) HNl.out (by omega) HEnd.out.2.2 (fun i g hg => kyN_of hg) (fun i g hg => (HEnd.out.2.1 i g hg).low HB.out.2.2.1) HG.out (by omega) (fun b _ _ hb => k5 b (by rw [HB.out.1] at hb; exact hb))
end Go.Proofs.YtcbngdkekdhfeaaGreatDoor
namespace Go.Proofs.YtcbngdkekdhfeaaGreatDoor
open Go.RowKit Go.Shelf
set_option linter.unusedVariables false
set_option linter.unusedSimpArgs false
attribute [local go_sem] Oper.semAt_some

set_option maxRecDepth 100000 in
set_option maxHeartbeats 12800000 in
theorem w_5readObject (s : ByteArray) (hs : s.size ≤ 1048576) (h d p : Nat) (hp : p ≤ s.size) (vl : Tok → Nat → Rd VT) (HR : RdC s h d vl) (HU : ValUp s vl) (w : World) :
    Calls Tryz.prog 49 #[.string s, .int .i64 (p : Int), .int .i64 (d : Int)] w fun e w' => An5 (h + 1) w (obL s.data.toList vl p) e w' := by
  have hl : s.data.toList.length = s.size := size_lst s
  have HRd := Hid.mk HR
  have HUp := Hid.mk HU
  have HN := Hid.mk (fun (u : World) (q : Nat) (hq : q ≤ s.size) => w_5Next s q u hq hs)
  have HWr := Hid.mk (fun (sg a z : Nat) (tx : List UInt8) (cd : Nat) (u : World) => w_5wrong sg a z tx cd u)
  obtain ⟨R, hR⟩ : ∃ R, obL s.data.toList vl p = R := ⟨_, rfl⟩
  rw [hR]
  rw [obL_toO] at hR
  have HRR0 := Hid.mk hR
  clear hR HR HU
  go_enter Tryz.func49, Tryz.ntmps49
  go_wp2_with fail
  refine (HN.out _ p hp).mono ?_
  rintro e w1 ⟨hb1, hnx⟩
  obtain ⟨W0, hW0⟩ : ∃ W0, (w.alloc (.cells #[.int .i64 0, .string ⟨#[]⟩, .string ⟨#[]⟩, .slice none 0 0, .slice none 0 0, .int .i64 0, .int .i64 0] 72)).alloc (.cells #[.int .i64 6, .string ⟨#[]⟩, .string ⟨#[]⟩, .slice none 0 0, .slice none 0 0] 27) = W0 := ⟨_, rfl⟩
  rw [hW0] at hb1
  have hs0 : W0.heap.size = w.heap.size + 1 + 1 := by rw [← hW0]; simp
  have hr0 : W0.heap[w.heap.size]? = some (.cells #[.int .i64 0, .string ⟨#[]⟩, .string ⟨#[]⟩, .slice none 0 0, .slice none 0 0, .int .i64 0, .int .i64 0] 72 (0, 0)) := by rw [← hW0, Below.heap_alloc _ _ _ (by simp), heap_alloc_new]
  have ho0 : W0.heap[w.heap.size + 1]? = some (.cells #[.int .i64 6, .string ⟨#[]⟩, .string ⟨#[]⟩, .slice none 0 0, .slice none 0 0] 27 (0, 0)) := by
    have := heap_alloc_new (w.alloc (.cells #[.int .i64 0, .string ⟨#[]⟩, .string ⟨#[]⟩, .slice none 0 0, .slice none 0 0, .int .i64 0, .int .i64 0] 72)) (.cells #[.int .i64 6, .string ⟨#[]⟩, .string ⟨#[]⟩, .slice none 0 0, .slice none 0 0] 27)
    rw [World.size_alloc, hW0] at this
    exact this
  have hbw0 : Below w.heap.size w W0 := by rw [← hW0]; exact (below1 w _).alloc (by simp) _
  have hz1' := hb1.size
  have hsz1 : w.heap.size + 1 < w1.heap.size := by omega
  have hsz0 : w.heap.size < w1.heap.size := by omega
  have HS0 : Hid (∀ (y0 y1 y2 y3 y4 : Value), ROs (w1.heap.size + 1) w1.heap.size h [] w (w1.alloc (.cells #[y0, y1, y2, y3, y4] 69))) := fun y0 y1 y2 y3 y4 => by
    have b2 := below1 w1 (.cells #[y0, y1, y2, y3, y4] 69)
    exact ⟨⟨none, 0, none, 0, (b2.block _ (by omega)).trans ((hb1.block _ (by omega)).trans ho0), inF_leaf _ _ _ 6 .empty .empty (by decide) (by decide)⟩, (b2.block _ (by omega)).trans ((hb1.block _ (by omega)).trans hr0), ⟨y0, y1, y2, y3, y4, heap_alloc_new w1 _⟩, (hbw0.trans (hb1.mono (by omega))).trans (b2.mono (by omega)), by omega, by omega, by simp⟩
  have hv1 := (hb1.block _ (by omega)).trans ho0
  have hr1 := (hb1.block _ (by omega)).trans hr0
  obtain ⟨v0, v1, v2, v3, v4, _, _, _, _, _⟩ := vbox_cells hv1
  obtain ⟨c0, c1, c2, c3, c4, c5, c6, f0, f1, f2, f3, f4, f5, f6⟩ := box7_cells hr1
  have HX := Hid.mk hr1
  have HB : Hid (Below w.heap.size w w1) := hbw0.trans (hb1.mono (by omega))
  clear hb1 hW0 hs0 hr0 ho0 hbw0 hz1' hv1 hr1
  obtain ⟨sg, a, z, tx, cd, rfl, hfirst⟩ := nx5_is hnx 2 (by omega)
  clear hnx
  unfold pc5
  rcases hfirst with ⟨rfl, rfl, t, hm, hk, _, _⟩ | ⟨hne, er, _, _, hnot0⟩
  · have HRR : Hid (Rd.ok (objT []) z = R) := by
      show _ = _
      rw [← HRR0.out]
      unfold rowL
      rw [hm]
      dsimp only
      rw [if_pos hk]
      rfl
    clear hm hk HRR0 HS0
    rw [show sg5 2 = 125 from rfl]
    go_wp2_with fail
    (try simp only [Exit.inBlock, Exit.then])
    generalize hz7 : (((((((w1.setCell ⟨w.heap.size, 0, none⟩ (.int .i64 6)).setCell ⟨w.heap.size, 1, none⟩ (.string ⟨#[]⟩)).setCell ⟨w.heap.size, 2, none⟩ (.string ⟨#[]⟩)).setCell ⟨w.heap.size, 3, none⟩ (.slice none 0 0)).setCell ⟨w.heap.size, 4, none⟩ (.slice none 0 0)).setCell ⟨w.heap.size, 5, none⟩ (.int .i64 (z : Int))).setCell ⟨w.heap.size, 6, none⟩ (.int .i64 0)) = wz
    obtain ⟨e7, k7, s7⟩ := rbox_set7 w1 _ _ _ _ _ _ _ _ _ _ _ _ _ _ _ _ HX.out wz hz7.symm
    have e8 := (Below.heap_alloc wz (.cells #[.int .u8 125, .int .i64 (a : Int), .int .i64 (z : Int), .string ⟨tx.toArray⟩, .int .i64 0] 69) w.heap.size (by omega)).trans e7
    obtain ⟨d0, d1, d2, d3, d4, d5, d6, _⟩ := box7_cells e8
    have hbz : Below w.heap.size w wz := by rw [← hz7]; exact ((((((HB.out.setCell (p := ⟨w.heap.size, 0, none⟩) (Nat.le_refl _) _).setCell (p := ⟨w.heap.size, 1, none⟩) (Nat.le_refl _) _).setCell (p := ⟨w.heap.size, 2, none⟩) (Nat.le_refl _) _).setCell (p := ⟨w.heap.size, 3, none⟩) (Nat.le_refl _) _).setCell (p := ⟨w.heap.size, 4, none⟩) (Nat.le_refl _) _).setCell (p := ⟨w.heap.size, 5, none⟩) (Nat.le_refl _) _).setCell (p := ⟨w.heap.size, 6, none⟩) (Nat.le_refl _) _
    refine bodyPost_ret (v := .agg #[.int .i64 6, .string ⟨#[]⟩, .string ⟨#[]⟩, .slice none 0 0, .slice none 0 0, .int .i64 (z : Int), .int .i64 0]) (by simp [results, Tryz.results49, go_sem, d0, d1, d2, d3, d4, d5, d6]) rfl ?_
    rw [← HRR.out]
    exact ⟨hbz.alloc hbz.size _, _, _, _, _, _, rfl, inF_leaf _ _ _ 6 .empty .empty (by decide) (by decide)⟩
  · have hnot : ∀ t p1, mustL s.data.toList p = .ok t p1 → t.kind ≠ 2 := fun t2 p2 h3 => by
      rcases hnot0 with h4 | ⟨t, h4, hk, _⟩
      · rw [h4.1] at h3; cases h3
      · rw [h4] at h3; injection h3 with e1 e2; subst e1; exact hk
    have HRG : Hid (toO (RgO s.data.toList vl (s.size + 1) [] p) = R) := by
      show _ = _
      rw [← HRR0.out, RgO_row hnot, hl]
    have HS1 := Hid.mk (HS0.out (.int .u8 (sg : Int)) (.int .i64 (a : Int)) (.int .i64 (z : Int)) (.string ⟨tx.toArray⟩) (.int .i64 (cd : Int)))
    clear hnot hnot0 HRR0 HS0 HX HB c0 c1 c2 c3 c4 c5 c6 f0 f1 f2 f3 f4 f5 f6
    rcases hne with hc0 | ⟨rfl, hs1⟩
    · have hcb : (((cd : Nat) : Int) == 0) = false := by rw [beq_eq_false_iff_ne]; omega
      have hcn : ¬ ((cd : Nat) : Int) = 0 := by omega
      go_wp2_with fail
      clear hc0 hcb hcn
      go_loopw [1] (fun q' wr => ∃ (f : Nat) (fs : List (List UInt8 × VT)) (q : Nat), q ≤ s.size ∧ q' = .int .i64 (q : Int) ∧ Hid (s.size < q + f) ∧ Hid (ROs (w1.heap.size + 1) w1.heap.size h fs w wr) ∧ Hid (toO (RgO s.data.toList vl f fs q) = R) ∧ Hid (fs.length ≤ q ∧ ∀ g ∈ fs, g.1.length ≤ 140737488355328)) (fun a _ => s.size + 1 - (intOf a).toNat)
      case atStart => exact ⟨s.size + 1, [], p, hp, rfl, (by show s.size < p + (s.size + 1); omega), HS1, HRG, ⟨Nat.zero_le _, fun g hg => by cases hg⟩⟩
      case round =>
        clear HS1 HRG
        obtain ⟨f, fs, q, hq, rfl, HF, HS, HG, HFit⟩ := hrel
        obtain ⟨f, rfl⟩ : ∃ f', f = f' + 1 := ⟨f - 1, by have := HF.out; omega⟩
        have hle : (q : Int) ≤ (s.size : Int) := by omega
        go_wp2_with fail
        refine (HN.out _ q hq).mono ?_
        rintro e w2 ⟨hb2, hnx⟩
        have HP2 := Hid.mk (HS.out.low hb2)
        obtain ⟨sg, a, z, tx, cd, rfl, hcase⟩ := nx5_is hnx 11 (by omega)
        clear hnx hb2 HS
        rcases hcase with ⟨rfl, rfl, t, hm, hk, ha, htx⟩ | ⟨hbad, er, he0, hee, hmm⟩
        · obtain ⟨v5, v6⟩ := mustL_up (l := s.data.toList) (by omega) hm
          have hz : z ≤ s.size := by omega
          have hqz : q < z := v5
          have htl : tx.length ≤ 140737488355328 := by have := mustL_text hm; rw [htx] at this; omega
          rw [show sg5 11 = 34 from rfl]
          unfold pc5
          have HM := Hid.mk (And.intro hm (And.intro hk (And.intro ha htx)))
          clear hm hk ha htx v5 v6
          obtain ⟨y0, y1, y2, y3, y4, hpb⟩ := HP2.out.pb
          obtain ⟨p0_3, p1_3, p2_3, p3_3, p4_3, pf0_3, pf1_3, pf2_3, pf3_3, pf4_3⟩ := vbox_cells hpb
          obtain ⟨W3, hW3⟩ : ∃ W3, (((((w2.setCell ⟨w1.heap.size, 0, none⟩ (.int .u8 34)).setCell ⟨w1.heap.size, 1, none⟩ (.int .i64 (a : Int))).setCell ⟨w1.heap.size, 2, none⟩ (.int .i64 (z : Int))).setCell ⟨w1.heap.size, 3, none⟩ (.string ⟨tx.toArray⟩)).setCell ⟨w1.heap.size, 4, none⟩ (.int .i64 0)) = W3 := ⟨_, rfl⟩
          obtain ⟨hPP, hpb7⟩ := HP2.out.pset _ _ _ _ _ W3 hW3.symm
          obtain ⟨r0_3, r1_3, r2_3, r3_3, r4_3, _, _, _, _, _⟩ := vbox_cells hpb7
          have HP3 := Hid.mk hPP
          have hl_3 : w1.heap.size < W3.heap.size := (Array.getElem?_eq_some_iff.1 hpb7).1
          clear hpb hPP hpb7
          obtain ⟨io, ic, ko, kc, hO3, hI3⟩ := HP3.out.obj
          obtain ⟨o0, o1, o2, o3, o4, _, _, _, _, _⟩ := vbox_cells hO3
          have hw3 : w.heap.size + 1 < W3.heap.size := (Array.getElem?_eq_some_iff.1 hO3).1
          have HHas := Hid.mk (w_5HasO hI3 tx)
          clear hO3 hI3
          go_wp2_with fail
          refine HHas.out.mono ?_
          rintro e w4 ⟨rfl, rfl⟩
          cases hany : (fs.any fun f => f.1 == tx) with
          | true =>
            have HRR : Hid (Rd.bad 53 a = R) := by
              show _ = _
              obtain ⟨m1, m2, m3, m4⟩ := HM.out
              rw [← HG.out, rgT m1 m2 (by rw [m4]; exact hany), m3]
              rfl
            have HW2 : Hid (∀ u, Calls Tryz.prog 47 #[.int .i64 53, .int .i64 (a : Int)] u fun e w' => Below u.heap.size u w' ∧ e = .returned (bad5 a 53)) := fun u => w_5bad 53 a u
            clear HM HG hany
            go_wp2_with fail
            refine (HW2.out _).mono ?_
            rintro e w8 ⟨hb8, rfl⟩
            have HP8 := Hid.mk (HP3.out.low hb8)
            obtain ⟨c0, c1, c2, c3, c4, c5, c6, f0, f1, f2, f3, f4, f5, f6⟩ := box7_cells HP8.out.res
            have HX := Hid.mk HP8.out.res
            have HB := Hid.mk HP8.out.bel
            clear hb8
            unfold bad5 ans5
            go_wp2_with fail
            (try simp only [Exit.inBlock, Exit.then])
            generalize hz7 : (((((((w8.setCell ⟨w.heap.size, 0, none⟩ (.int .i64 0)).setCell ⟨w.heap.size, 1, none⟩ (.string ⟨#[]⟩)).setCell ⟨w.heap.size, 2, none⟩ (.string ⟨#[]⟩)).setCell ⟨w.heap.size, 3, none⟩ (.slice none 0 0)).setCell ⟨w.heap.size, 4, none⟩ (.slice none 0 0)).setCell ⟨w.heap.size, 5, none⟩ (.int .i64 (a : Int))).setCell ⟨w.heap.size, 6, none⟩ (.int .i64 53)) = wz
            obtain ⟨e7, k7, s7⟩ := rbox_set7 w8 _ _ _ _ _ _ _ _ _ _ _ _ _ _ _ _ HX.out wz hz7.symm
            obtain ⟨d0, d1, d2, d3, d4, d5, d6, _⟩ := box7_cells e7
            have hbz : Below w.heap.size w wz := by rw [← hz7]; exact ((((((HB.out.setCell (p := ⟨w.heap.size, 0, none⟩) (by show w.heap.size ≤ w.heap.size; omega) _).setCell (p := ⟨w.heap.size, 1, none⟩) (by show w.heap.size ≤ w.heap.size; omega) _).setCell (p := ⟨w.heap.size, 2, none⟩) (by show w.heap.size ≤ w.heap.size; omega) _).setCell (p := ⟨w.heap.size, 3, none⟩) (by show w.heap.size ≤ w.heap.size; omega) _).setCell (p := ⟨w.heap.size, 4, none⟩) (by show w.heap.size ≤ w.heap.size; omega) _).setCell (p := ⟨w.heap.size, 5, none⟩) (by show w.heap.size ≤ w.heap.size; omega) _).setCell (p := ⟨w.heap.size, 6, none⟩) (by show w.heap.size ≤ w.heap.size; omega) _
            refine bodyPost_ret (v := .agg #[.int .i64 0, .string ⟨#[]⟩, .string ⟨#[]⟩, .slice none 0 0, .slice none 0 0, .int .i64 (a : Int), .int .i64 53]) (by simp [results, Tryz.results49, go_sem, d0, d1, d2, d3, d4, d5, d6]) rfl ?_
            exact ⟨hbz, by rw [← HRR.out]; exact ⟨by omega, rfl⟩⟩
          | false =>
            have HAny := Hid.mk hany
            clear hany
            go_wp2_with fail
            refine (HN.out _ z hz).mono ?_
            rintro e w5 ⟨hb5, hnx⟩
            have HP5 := Hid.mk (HP3.out.low hb5)
            obtain ⟨sg, a', z', tx', cd, rfl, hcase⟩ := nx5_is hnx 5 (by omega)
            have hz5 := hb5.size
            clear hnx hb5
            rcases hcase with ⟨rfl, rfl, t2, hm2, hk2, ha2, htx2⟩ | ⟨hbad, er, he0, hee, hmm⟩
            · obtain ⟨v5, v6⟩ := mustL_up (l := s.data.toList) (by omega) hm2
              have hz' : z' ≤ s.size := by omega
              have hzz : z < z' := v5
              rw [show sg5 5 = 58 from rfl]
              unfold pc5
              have HGC : Hid ((match rdL s.data.toList vl z' with | .bad e q' => Rd.bad e q' | .ok v p3 => toO (loopL s.data.toList 2 (oPt s.data.toList vl) (f + 1) (fs ++ [(tx, v)]) p3)) = R) := by
                show _ = _
                obtain ⟨m1, m2, m3, m4⟩ := HM.out
                rw [← HG.out, rgC m1 m2 (by rw [m4]; exact HAny.out) hm2 hk2, m4]
                cases rdL s.data.toList vl z' <;> rfl
              clear hm2 hk2 ha2 htx2 v5 v6 HM HG
              obtain ⟨y0, y1, y2, y3, y4, hpb⟩ := HP5.out.pb
              obtain ⟨p0_6, p1_6, p2_6, p3_6, p4_6, pf0_6, pf1_6, pf2_6, pf3_6, pf4_6⟩ := vbox_cells hpb
              obtain ⟨W6, hW6⟩ : ∃ W6, (((((w5.setCell ⟨w1.heap.size, 0, none⟩ (.int .u8 58)).setCell ⟨w1.heap.size, 1, none⟩ (.int .i64 (a' : Int))).setCell ⟨w1.heap.size, 2, none⟩ (.int .i64 (z' : Int))).setCell ⟨w1.heap.size, 3, none⟩ (.string ⟨tx'.toArray⟩)).setCell ⟨w1.heap.size, 4, none⟩ (.int .i64 0)) = W6 := ⟨_, rfl⟩
              obtain ⟨hPP, hpb7⟩ := HP5.out.pset _ _ _ _ _ W6 hW6.symm
              obtain ⟨r0_6, r1_6, r2_6, r3_6, r4_6, _, _, _, _, _⟩ := vbox_cells hpb7
              have HP6 := Hid.mk hPP
              have hl_6 : w1.heap.size < W6.heap.size := (Array.getElem?_eq_some_iff.1 hpb7).1
              clear hpb hPP hpb7
              go_wp2_with fail
              refine (HRd.out z' _ hz').mono ?_
              rintro e w7 ⟨hb7, hmr⟩
              have HP7 := Hid.mk (HP6.out.low hb7)
              have hlo6 := HP6.out.ll
              have hG := HGC.out
              cases hr : rdL s.data.toList vl z' with
              | bad er q2 =>
                rw [hr] at hmr hG
                obtain ⟨h0, rfl⟩ := hmr
                have HRR : Hid (Rd.bad er q2 = R) := hG
                have H0 := Hid.mk h0
                have hcb : (((er : Nat) : Int) == 0) = false := by rw [beq_eq_false_iff_ne]; omega
                have hcn : ¬ ((er : Nat) : Int) = 0 := by omega
                obtain ⟨c0, c1, c2, c3, c4, c5, c6, f0, f1, f2, f3, f4, f5, f6⟩ := box7_cells HP7.out.res
                have hw2 : w.heap.size < w7.heap.size := (Array.getElem?_eq_some_iff.1 HP7.out.res).1
                clear hr hG h0 hb7 HGC
                unfold bad5 ans5
                go_wp2_with fail
                (try simp only [Exit.inBlock, Exit.then])
                have HX := Hid.mk HP7.out.res
                have HB := Hid.mk HP7.out.bel
                generalize hz7 : (((((((w7.setCell ⟨w.heap.size, 0, none⟩ (.int .i64 0)).setCell ⟨w.heap.size, 1, none⟩ (.string ⟨#[]⟩)).setCell ⟨w.heap.size, 2, none⟩ (.string ⟨#[]⟩)).setCell ⟨w.heap.size, 3, none⟩ (.slice none 0 0)).setCell ⟨w.heap.size, 4, none⟩ (.slice none 0 0)).setCell ⟨w.heap.size, 5, none⟩ (.int .i64 (q2 : Int))).setCell ⟨w.heap.size, 6, none⟩ (.int .i64 (er : Int))) = wz
                obtain ⟨e7, k7, s7⟩ := rbox_set7 w7 _ _ _ _ _ _ _ _ _ _ _ _ _ _ _ _ HX.out wz hz7.symm
                have e8 := (Below.heap_alloc wz (.cells #[.int .i64 0, .string ⟨#[]⟩, .string ⟨#[]⟩, .slice none 0 0, .slice none 0 0, .int .i64 (q2 : Int), .int .i64 (er : Int)] 72) w.heap.size (by omega)).trans e7
                obtain ⟨d0, d1, d2, d3, d4, d5, d6, _⟩ := box7_cells e8
                have hbz : Below w.heap.size w wz := by rw [← hz7]; exact ((((((HB.out.setCell (p := ⟨w.heap.size, 0, none⟩) (Nat.le_refl _) _).setCell (p := ⟨w.heap.size, 1, none⟩) (Nat.le_refl _) _).setCell (p := ⟨w.heap.size, 2, none⟩) (Nat.le_refl _) _).setCell (p := ⟨w.heap.size, 3, none⟩) (Nat.le_refl _) _).setCell (p := ⟨w.heap.size, 4, none⟩) (Nat.le_refl _) _).setCell (p := ⟨w.heap.size, 5, none⟩) (Nat.le_refl _) _).setCell (p := ⟨w.heap.size, 6, none⟩) (Nat.le_refl _) _
                refine bodyPost_ret (v := .agg #[.int .i64 0, .string ⟨#[]⟩, .string ⟨#[]⟩, .slice none 0 0, .slice none 0 0, .int .i64 (q2 : Int), .int .i64 (er : Int)]) (by simp [results, Tryz.results49, go_sem, d0, d1, d2, d3, d4, d5, d6]) rfl ?_
                rw [← HRR.out]
                exact ⟨hbz.alloc hbz.size _, H0.out, rfl⟩
              | ok T q2 =>
                rw [hr] at hmr hG
                dsimp only at hG
                obtain ⟨u1, u2⟩ := rdL_up HUp.out hz' hr
                obtain ⟨x0, x1, x2, x3, x4, rfl, hFv⟩ := hmr
                obtain ⟨jo, jc, jk, jkc, hv, hrest⟩ := id hFv
                simp only [Value.agg.injEq, Array.mk.injEq, List.cons.injEq, and_true] at hv
                obtain ⟨rfl, rfl, rfl, rfl, rfl⟩ := hv
                clear hrest
                have HG2 := Hid.mk hG
                obtain ⟨W8, hW8⟩ : ∃ W8, w7.alloc (.cells #[.int .i64 T.kind, .string T.num, .string T.text, .slice jo T.items.length jc, .slice jk T.keys.length jkc, .int .i64 (q2 : Int), .int .i64 0] 72) = W8 := ⟨_, rfl⟩
                have hb8 : Below w7.heap.size w7 W8 := by rw [← hW8]; exact below1 w7 _
                have HP8 := Hid.mk (HP7.out.low hb8)
                have ha8 : W8.heap[w7.heap.size]? = some (.cells #[.int .i64 T.kind, .string T.num, .string T.text, .slice jo T.items.length jc, .slice jk T.keys.length jkc, .int .i64 (q2 : Int), .int .i64 0] 72 (0, 0)) := by rw [← hW8]; exact heap_alloc_new w7 _
                obtain ⟨io8, ic8, ko8, kc8, hO7, hI7⟩ := HP7.out.obj
                obtain ⟨o0', o1', o2', o3', o4', of0, of1, of2, of3, of4⟩ := vbox_cells hO7
                have hI8 := hI7.low hb8
                have hT8 : InF (w1.heap.size + 1) W8 (h + 1) T (.agg #[.int .i64 T.kind, .string T.num, .string T.text, .slice jo T.items.length jc, .slice jk T.keys.length jkc]) := (InF.keepB (Nat.le_refl _) (fun b _ _ => rfl) hlo6 hFv).low hb8
                have hw8s : W8.heap.size = w7.heap.size + 1 := by rw [← hW8]; simp
                have hwv8 : w.heap.size + 1 < w7.heap.size := (Array.getElem?_eq_some_iff.1 hO7).1
                have HW8e := Hid.mk hW8
                have hWi := w_5with (w1.heap.size + 1) h fs.length fs tx T W8 _ _ HP8.out.ll rfl (by have := HFit.out.1; omega) htl HFit.out.2 hI8 hT8
                have HWi := Hid.mk hWi
                have HA8 := Hid.mk ha8
                have HW8 := Hid.mk hw8s
                clear hr hG hFv hb7 hb8 HGC hI8 hT8 hO7 hI7 ha8 hWi hw8s hW8
                unfold ans5
                go_wp2_with fail
                rw [HW8e.out]
                refine HWi.out.mono ?_
                rintro e w9 ⟨hb9, io9, ic9, ko9, kc9, rfl, hI9⟩
                have HP9 := Hid.mk (HP8.out.low hb9)
                obtain ⟨io9', ic9', ko9', kc9', hO9, _⟩ := HP9.out.obj
                obtain ⟨t0, t1, t2', t3, t4, tf0, tf1, tf2, tf3, tf4⟩ := vbox_cells hO9
                obtain ⟨W9, hW9⟩ : ∃ W9, (((((w9.setCell ⟨w.heap.size + 1, 0, none⟩ (.int .i64 6)).setCell ⟨w.heap.size + 1, 1, none⟩ (.string ⟨#[]⟩)).setCell ⟨w.heap.size + 1, 2, none⟩ (.string ⟨#[]⟩)).setCell ⟨w.heap.size + 1, 3, none⟩ ((.slice io9 (fs.length + 1) ic9))).setCell ⟨w.heap.size + 1, 4, none⟩ ((.slice ko9 (fs.length + 1) kc9))) = W9 := ⟨_, rfl⟩
                have e9 : (fs ++ [(tx, T)]).length = fs.length + 1 := by rw [List.length_append]; rfl
                obtain ⟨hP10, hk10, hs10⟩ := HP9.out.vset (fs' := fs ++ [(tx, T)]) (by rw [e9]; exact hI9) W9 (by rw [e9]; exact hW9.symm)
                have ha9 : W9.heap[w7.heap.size]? = some (.cells #[.int .i64 T.kind, .string T.num, .string T.text, .slice jo T.items.length jc, .slice jk T.keys.length jkc, .int .i64 (q2 : Int), .int .i64 0] 72 (0, 0)) := (hk10 _ (by have h1 := HP7.out.pl; have h2 := HP7.out.pl2; have h3 := HP7.out.ll; omega)).trans ((hb9.block _ (by have := HW8.out; omega)).trans HA8.out)
                have q55 := (box7_cells ha9).2.2.2.2.2.1
                have HP10 := Hid.mk hP10
                have hag9 : w7.heap.size < W9.heap.size := (Array.getElem?_eq_some_iff.1 ha9).1
                have HQ := Hid.mk (And.intro u1 u2)
                clear hb9 hI9 hO9 hP10 hk10 hs10 ha9 e9 HW8e o0' o1' o2' o3' o4' of0 of1 of2 of3 of4
                go_wp2_with fail
                refine (HN.out _ q2 u2).mono ?_
                rintro e w11 ⟨hb11, hnx⟩
                have HP11 := Hid.mk (HP10.out.low hb11)
                clear hb11
                obtain ⟨sg, a, z, tx2, cd, rfl, hcase⟩ := nx5_is hnx 2 (by omega)
                clear hnx
                rcases hcase with ⟨rfl, rfl, t3, hm3, hk3, ha3, htx3⟩ | ⟨hbad, er, he0, hee, hmm⟩
                · have HRR : Hid (Rd.ok (objT (fs ++ [(tx, T)])) z = R) := by
                    show _ = _
                    rw [← HG2.out, loopL, hm3]
                    dsimp only
                    rw [if_pos hk3]
                    rfl
                  clear HG2 hm3 hk3 ha3 htx3
                  rw [show sg5 2 = 125 from rfl]
                  unfold pc5
                  obtain ⟨y0, y1, y2, y3, y4, hpb⟩ := HP11.out.pb
                  obtain ⟨p0_12, p1_12, p2_12, p3_12, p4_12, pf0_12, pf1_12, pf2_12, pf3_12, pf4_12⟩ := vbox_cells hpb
                  obtain ⟨W12, hW12⟩ : ∃ W12, (((((w11.setCell ⟨w1.heap.size, 0, none⟩ (.int .u8 125)).setCell ⟨w1.heap.size, 1, none⟩ (.int .i64 (a : Int))).setCell ⟨w1.heap.size, 2, none⟩ (.int .i64 (z : Int))).setCell ⟨w1.heap.size, 3, none⟩ (.string ⟨tx2.toArray⟩)).setCell ⟨w1.heap.size, 4, none⟩ (.int .i64 0)) = W12 := ⟨_, rfl⟩
                  obtain ⟨hPP, hpb7⟩ := HP11.out.pset _ _ _ _ _ W12 hW12.symm
                  obtain ⟨r0_12, r1_12, r2_12, r3_12, r4_12, _, _, _, _, _⟩ := vbox_cells hpb7
                  have HP12 := Hid.mk hPP
                  have hl_12 : w1.heap.size < W12.heap.size := (Array.getElem?_eq_some_iff.1 hpb7).1
                  clear hpb hPP hpb7
                  obtain ⟨ioA, icA, koA, kcA, hOA, hIA⟩ := HP12.out.obj
                  obtain ⟨g0, g1, g2, g3, g4, _, _, _, _, _⟩ := vbox_cells hOA
                  obtain ⟨c0, c1, c2, c3, c4, c5, c6, f0, f1, f2, f3, f4, f5, f6⟩ := box7_cells HP12.out.res
                  have hlw : w.heap.size < W12.heap.size := (Array.getElem?_eq_some_iff.1 HP12.out.res).1
                  have hlv : w.heap.size + 1 < W12.heap.size := (Array.getElem?_eq_some_iff.1 hOA).1
                  have HIA := Hid.mk hIA
                  obtain ⟨nn, hnn⟩ : ∃ nn, (fs ++ [(tx, T)]).length = nn := ⟨_, rfl⟩
                  rw [hnn] at g3 g4 HIA
                  clear hOA hIA hnn
                  go_wp2_with fail
                  (try simp only [Exit.inBlock, Exit.then])
                  have HX := Hid.mk HP12.out.res
                  have HB := Hid.mk HP12.out.bel
                  generalize hz7 : (((((((W12.setCell ⟨w.heap.size, 0, none⟩ (.int .i64 6)).setCell ⟨w.heap.size, 1, none⟩ (.string ⟨#[]⟩)).setCell ⟨w.heap.size, 2, none⟩ (.string ⟨#[]⟩)).setCell ⟨w.heap.size, 3, none⟩ (.slice ioA nn icA)).setCell ⟨w.heap.size, 4, none⟩ (.slice koA nn kcA)).setCell ⟨w.heap.size, 5, none⟩ (.int .i64 (z : Int))).setCell ⟨w.heap.size, 6, none⟩ (.int .i64 0)) = wz
                  obtain ⟨e7, k7, s7⟩ := rbox_set7 W12 _ _ _ _ _ _ _ _ _ _ _ _ _ _ _ _ HX.out wz hz7.symm
                  obtain ⟨d0, d1, d2, d3, d4, d5, d6, _⟩ := box7_cells e7
                  have hbz : Below w.heap.size w wz := by rw [← hz7]; exact ((((((HB.out.setCell (p := ⟨w.heap.size, 0, none⟩) (by show w.heap.size ≤ w.heap.size; omega) _).setCell (p := ⟨w.heap.size, 1, none⟩) (by show w.heap.size ≤ w.heap.size; omega) _).setCell (p := ⟨w.heap.size, 2, none⟩) (by show w.heap.size ≤ w.heap.size; omega) _).setCell (p := ⟨w.heap.size, 3, none⟩) (by show w.heap.size ≤ w.heap.size; omega) _).setCell (p := ⟨w.heap.size, 4, none⟩) (by show w.heap.size ≤ w.heap.size; omega) _).setCell (p := ⟨w.heap.size, 5, none⟩) (by show w.heap.size ≤ w.heap.size; omega) _).setCell (p := ⟨w.heap.size, 6, none⟩) (by show w.heap.size ≤ w.heap.size; omega) _
                  refine bodyPost_ret (v := .agg #[.int .i64 6, .string ⟨#[]⟩, .string ⟨#[]⟩, .slice ioA nn icA, .slice koA nn kcA, .int .i64 (z : Int), .int .i64 0]) (by simp [results, Tryz.results49, go_sem, d0, d1, d2, d3, d4, d5, d6]) rfl ?_
                  exact ⟨hbz, by rw [← HRR.out]; exact ⟨_, _, _, _, _, rfl, InF.keepB (by omega) (fun b hb _ => k7 b (by have h1 := HP12.out.pl; have h2 := HP12.out.pl2; omega)) (by have h1 := HP12.out.pl; have h2 := HP12.out.pl2; omega) HIA.out⟩⟩
                · by_cases h6 : sg = 44 ∧ cd = 0
                  · obtain ⟨rfl, rfl⟩ := h6
                    obtain ⟨t3, hm3, hk3⟩ : ∃ t3, mustL s.data.toList q2 = .ok t3 z ∧ t3.kind = 6 := by
                      rcases hmm with hmm | ⟨t3, hm3, _, _, _, _, hsg, k1, k2⟩
                      · exact absurd (hmm.2 rfl) (by decide)
                      · exact ⟨t3, hm3, sg5_inj _ 6 k1 k2 (by omega) (by omega) hsg.symm⟩
                    obtain ⟨v5, v6⟩ := mustL_up (l := s.data.toList) (by omega) hm3
                    have HG3 : Hid (toO (RgO s.data.toList vl f (fs ++ [(tx, T)]) z) = R) := by
                      show _ = _
                      rw [← HG2.out, RgO_up hm3 hk3]
                    have HM3 := Hid.mk (And.intro v5 v6)
                    have hzz2 : z ≤ s.size := by omega
                    clear HG2 hm3 hk3 hbad he0 hee hmm v5 v6
                    unfold pc5
                    obtain ⟨y0, y1, y2, y3, y4, hpb⟩ := HP11.out.pb
                    obtain ⟨p0_12, p1_12, p2_12, p3_12, p4_12, pf0_12, pf1_12, pf2_12, pf3_12, pf4_12⟩ := vbox_cells hpb
                    obtain ⟨W12, hW12⟩ : ∃ W12, (((((w11.setCell ⟨w1.heap.size, 0, none⟩ (.int .u8 44)).setCell ⟨w1.heap.size, 1, none⟩ (.int .i64 (a : Int))).setCell ⟨w1.heap.size, 2, none⟩ (.int .i64 (z : Int))).setCell ⟨w1.heap.size, 3, none⟩ (.string ⟨tx2.toArray⟩)).setCell ⟨w1.heap.size, 4, none⟩ (.int .i64 0)) = W12 := ⟨_, rfl⟩
                    obtain ⟨hPP, hpb7⟩ := HP11.out.pset _ _ _ _ _ W12 hW12.symm
                    obtain ⟨r0_12, r1_12, r2_12, r3_12, r4_12, _, _, _, _, _⟩ := vbox_cells hpb7
                    have HP12 := Hid.mk hPP
                    have hl_12 : w1.heap.size < W12.heap.size := (Array.getElem?_eq_some_iff.1 hpb7).1
                    clear hpb hPP hpb7
                    go_wp2_with fail
                    go_roundw
                    case rel => exact ⟨f, fs ++ [(tx, T)], z, hzz2, rfl, (by show s.size < z + f; have := HF.out; have := HM3.out.1; have := HQ.out.1; omega), HP12, HG3, ⟨by rw [List.length_append]; show fs.length + 1 ≤ z; have := HFit.out.1; have := HM3.out.1; have := HQ.out.1; omega, fun g hg => by
                      rcases List.mem_append.1 hg with hg | hg
                      · exact HFit.out.2 g hg
                      · rcases List.mem_singleton.1 hg with rfl
                        exact htl⟩⟩
                    case measure =>
                      have := HM3.out.1
                      have := HQ.out.1
                      simp [intOf]
                      omega
                  · have HRR : Hid (Rd.bad er a = R) := by
                      show _ = _
                      rw [← HG2.out, rgD (z := z) (er := er) (a := a)]
                      · rfl
                      · rcases hmm with hmm | ⟨t3, hm3, hk3, he3, ha3, hcd3, hsg3, k1, k2⟩
                        · exact .inl hmm.1
                        · exact .inr ⟨t3, hm3, hk3, fun e => h6 ⟨by rw [hsg3, e]; rfl, hcd3⟩, he3, ha3⟩
                    have HE0 := Hid.mk he0
                    have HW2 : Hid (∀ u, Calls Tryz.prog 46 #[.agg #[.int .u8 (sg : Int), .int .i64 (a : Int), .int .i64 (z : Int), .string ⟨tx2.toArray⟩, .int .i64 (cd : Int)]] u fun e w' => Below u.heap.size u w' ∧ e = .returned (bad5 a er)) := fun u => by
                      have hw := HWr.out sg a z tx2 cd u
                      rw [hee] at hw
                      exact hw
                    have H6 := Hid.mk h6
                    clear hee hmm he0 HG2 h6
                    unfold pc5
                    rcases hbad with hc0 | ⟨rfl, hs1⟩
                    · have hcb : (((cd : Nat) : Int) == 0) = false := by rw [beq_eq_false_iff_ne]; omega
                      have hcn : ¬ ((cd : Nat) : Int) = 0 := by omega
                      clear hc0
                      obtain ⟨y0, y1, y2, y3, y4, hpb⟩ := HP11.out.pb
                      obtain ⟨p0_12, p1_12, p2_12, p3_12, p4_12, pf0_12, pf1_12, pf2_12, pf3_12, pf4_12⟩ := vbox_cells hpb
                      obtain ⟨W12, hW12⟩ : ∃ W12, (((((w11.setCell ⟨w1.heap.size, 0, none⟩ (.int .u8 (sg : Int))).setCell ⟨w1.heap.size, 1, none⟩ (.int .i64 (a : Int))).setCell ⟨w1.heap.size, 2, none⟩ (.int .i64 (z : Int))).setCell ⟨w1.heap.size, 3, none⟩ (.string ⟨tx2.toArray⟩)).setCell ⟨w1.heap.size, 4, none⟩ (.int .i64 (cd : Int))) = W12 := ⟨_, rfl⟩
                      obtain ⟨hPP, hpb7⟩ := HP11.out.pset _ _ _ _ _ W12 hW12.symm
                      obtain ⟨r0_12, r1_12, r2_12, r3_12, r4_12, _, _, _, _, _⟩ := vbox_cells hpb7
                      have HP12 := Hid.mk hPP
                      have hl_12 : w1.heap.size < W12.heap.size := (Array.getElem?_eq_some_iff.1 hpb7).1
                      clear hpb hPP hpb7
                      go_wp2_with fail
                      refine (HW2.out _).mono ?_
                      rintro e w8 ⟨hb8, rfl⟩
                      have HP8 := Hid.mk (HP12.out.low hb8)
                      obtain ⟨c0, c1, c2, c3, c4, c5, c6, f0, f1, f2, f3, f4, f5, f6⟩ := box7_cells HP8.out.res
                      have HX := Hid.mk HP8.out.res
                      have HB := Hid.mk HP8.out.bel
                      clear hb8
                      unfold bad5 ans5
                      go_wp2_with fail
                      (try simp only [Exit.inBlock, Exit.then])
                      generalize hz7 : (((((((w8.setCell ⟨w.heap.size, 0, none⟩ (.int .i64 0)).setCell ⟨w.heap.size, 1, none⟩ (.string ⟨#[]⟩)).setCell ⟨w.heap.size, 2, none⟩ (.string ⟨#[]⟩)).setCell ⟨w.heap.size, 3, none⟩ (.slice none 0 0)).setCell ⟨w.heap.size, 4, none⟩ (.slice none 0 0)).setCell ⟨w.heap.size, 5, none⟩ (.int .i64 (a : Int))).setCell ⟨w.heap.size, 6, none⟩ (.int .i64 (er : Int))) = wz
                      obtain ⟨e7, k7, s7⟩ := rbox_set7 w8 _ _ _ _ _ _ _ _ _ _ _ _ _ _ _ _ HX.out wz hz7.symm
                      obtain ⟨d0, d1, d2, d3, d4, d5, d6, _⟩ := box7_cells e7
                      have hbz : Below w.heap.size w wz := by rw [← hz7]; exact ((((((HB.out.setCell (p := ⟨w.heap.size, 0, none⟩) (by show w.heap.size ≤ w.heap.size; omega) _).setCell (p := ⟨w.heap.size, 1, none⟩) (by show w.heap.size ≤ w.heap.size; omega) _).setCell (p := ⟨w.heap.size, 2, none⟩) (by show w.heap.size ≤ w.heap.size; omega) _).setCell (p := ⟨w.heap.size, 3, none⟩) (by show w.heap.size ≤ w.heap.size; omega) _).setCell (p := ⟨w.heap.size, 4, none⟩) (by show w.heap.size ≤ w.heap.size; omega) _).setCell (p := ⟨w.heap.size, 5, none⟩) (by show w.heap.size ≤ w.heap.size; omega) _).setCell (p := ⟨w.heap.size, 6, none⟩) (by show w.heap.size ≤ w.heap.size; omega) _
                      refine bodyPost_ret (v := .agg #[.int .i64 0, .string ⟨#[]⟩, .string ⟨#[]⟩, .slice none 0 0, .slice none 0 0, .int .i64 (a : Int), .int .i64 (er : Int)]) (by simp [results, Tryz.results49, go_sem, d0, d1, d2, d3, d4, d5, d6]) rfl ?_
                      exact ⟨hbz, by rw [← HRR.out]; exact ⟨HE0.out, rfl⟩⟩
                    · have hs2 : ¬ sg = 125 := hs1
                      have hs3 : ¬ sg = 44 := fun e => H6.out ⟨e, rfl⟩
                      have hsb : (((sg : Nat) : Int) == 125) = false := by rw [beq_eq_false_iff_ne]; omega
                      have hsn : ¬ ((sg : Nat) : Int) = 125 := by omega
                      have hsb2 : (((sg : Nat) : Int) == 44) = false := by rw [beq_eq_false_iff_ne]; omega
                      have hsn2 : ¬ ((sg : Nat) : Int) = 44 := by omega
                      clear hs1 hs2 hs3
                      obtain ⟨y0, y1, y2, y3, y4, hpb⟩ := HP11.out.pb
                      obtain ⟨p0_12, p1_12, p2_12, p3_12, p4_12, pf0_12, pf1_12, pf2_12, pf3_12, pf4_12⟩ := vbox_cells hpb
                      obtain ⟨W12, hW12⟩ : ∃ W12, (((((w11.setCell ⟨w1.heap.size, 0, none⟩ (.int .u8 (sg : Int))).setCell ⟨w1.heap.size, 1, none⟩ (.int .i64 (a : Int))).setCell ⟨w1.heap.size, 2, none⟩ (.int .i64 (z : Int))).setCell ⟨w1.heap.size, 3, none⟩ (.string ⟨tx2.toArray⟩)).setCell ⟨w1.heap.size, 4, none⟩ (.int .i64 0)) = W12 := ⟨_, rfl⟩
                      obtain ⟨hPP, hpb7⟩ := HP11.out.pset _ _ _ _ _ W12 hW12.symm
                      obtain ⟨r0_12, r1_12, r2_12, r3_12, r4_12, _, _, _, _, _⟩ := vbox_cells hpb7
                      have HP12 := Hid.mk hPP
                      have hl_12 : w1.heap.size < W12.heap.size := (Array.getElem?_eq_some_iff.1 hpb7).1
                      clear hpb hPP hpb7
                      go_wp2_with fail
                      refine (HW2.out _).mono ?_
                      rintro e w8 ⟨hb8, rfl⟩
                      have HP8 := Hid.mk (HP12.out.low hb8)
                      obtain ⟨c0, c1, c2, c3, c4, c5, c6, f0, f1, f2, f3, f4, f5, f6⟩ := box7_cells HP8.out.res
                      have HX := Hid.mk HP8.out.res
                      have HB := Hid.mk HP8.out.bel
                      clear hb8
                      unfold bad5 ans5
                      go_wp2_with fail
                      (try simp only [Exit.inBlock, Exit.then])
                      generalize hz7 : (((((((w8.setCell ⟨w.heap.size, 0, none⟩ (.int .i64 0)).setCell ⟨w.heap.size, 1, none⟩ (.string ⟨#[]⟩)).setCell ⟨w.heap.size, 2, none⟩ (.string ⟨#[]⟩)).setCell ⟨w.heap.size, 3, none⟩ (.slice none 0 0)).setCell ⟨w.heap.size, 4, none⟩ (.slice none 0 0)).setCell ⟨w.heap.size, 5, none⟩ (.int .i64 (a : Int))).setCell ⟨w.heap.size, 6, none⟩ (.int .i64 (er : Int))) = wz
                      obtain ⟨e7, k7, s7⟩ := rbox_set7 w8 _ _ _ _ _ _ _ _ _ _ _ _ _ _ _ _ HX.out wz hz7.symm
                      obtain ⟨d0, d1, d2, d3, d4, d5, d6, _⟩ := box7_cells e7
                      have hbz : Below w.heap.size w wz := by rw [← hz7]; exact ((((((HB.out.setCell (p := ⟨w.heap.size, 0, none⟩) (by show w.heap.size ≤ w.heap.size; omega) _).setCell (p := ⟨w.heap.size, 1, none⟩) (by show w.heap.size ≤ w.heap.size; omega) _).setCell (p := ⟨w.heap.size, 2, none⟩) (by show w.heap.size ≤ w.heap.size; omega) _).setCell (p := ⟨w.heap.size, 3, none⟩) (by show w.heap.size ≤ w.heap.size; omega) _).setCell (p := ⟨w.heap.size, 4, none⟩) (by show w.heap.size ≤ w.heap.size; omega) _).setCell (p := ⟨w.heap.size, 5, none⟩) (by show w.heap.size ≤ w.heap.size; omega) _).setCell (p := ⟨w.heap.size, 6, none⟩) (by show w.heap.size ≤ w.heap.size; omega) _
                      refine bodyPost_ret (v := .agg #[.int .i64 0, .string ⟨#[]⟩, .string ⟨#[]⟩, .slice none 0 0, .slice none 0 0, .int .i64 (a : Int), .int .i64 (er : Int)]) (by simp [results, Tryz.results49, go_sem, d0, d1, d2, d3, d4, d5, d6]) rfl ?_
                      exact ⟨hbz, by rw [← HRR.out]; exact ⟨HE0.out, rfl⟩⟩
            · obtain ⟨m1, m2, m3, m4⟩ := HM.out
              have HRR : Hid (Rd.bad er a' = R) := by
                show _ = _
                rw [← HG.out, rgB m1 m2 (by rw [m4]; exact HAny.out) (er := er) (a := a') (z2 := z') (by rcases hmm with h | ⟨t, h1, h2, h3, h4, _⟩; exact .inl h.1; exact .inr ⟨t, h1, h2, h3, h4⟩)]
                rfl
              have HE0 := Hid.mk he0
              have HW2 : Hid (∀ u, Calls Tryz.prog 46 #[.agg #[.int .u8 (sg : Int), .int .i64 (a' : Int), .int .i64 (z' : Int), .string ⟨tx'.toArray⟩, .int .i64 (cd : Int)]] u fun e w' => Below u.heap.size u w' ∧ e = .returned (bad5 a' er)) := fun u => by
                have hw := HWr.out sg a' z' tx' cd u
                rw [hee] at hw
                exact hw
              clear m1 m2 m3 m4 HM hee hmm he0 HG
              unfold pc5
              rcases hbad with hc0 | ⟨rfl, hs1⟩
              · have hcb : (((cd : Nat) : Int) == 0) = false := by rw [beq_eq_false_iff_ne]; omega
                have hcn : ¬ ((cd : Nat) : Int) = 0 := by omega
                clear hc0
                obtain ⟨y0, y1, y2, y3, y4, hpb⟩ := HP5.out.pb
                obtain ⟨p0_6, p1_6, p2_6, p3_6, p4_6, pf0_6, pf1_6, pf2_6, pf3_6, pf4_6⟩ := vbox_cells hpb
                obtain ⟨W6, hW6⟩ : ∃ W6, (((((w5.setCell ⟨w1.heap.size, 0, none⟩ (.int .u8 (sg : Int))).setCell ⟨w1.heap.size, 1, none⟩ (.int .i64 (a' : Int))).setCell ⟨w1.heap.size, 2, none⟩ (.int .i64 (z' : Int))).setCell ⟨w1.heap.size, 3, none⟩ (.string ⟨tx'.toArray⟩)).setCell ⟨w1.heap.size, 4, none⟩ (.int .i64 (cd : Int))) = W6 := ⟨_, rfl⟩
                obtain ⟨hPP, hpb7⟩ := HP5.out.pset _ _ _ _ _ W6 hW6.symm
                obtain ⟨r0_6, r1_6, r2_6, r3_6, r4_6, _, _, _, _, _⟩ := vbox_cells hpb7
                have HP6 := Hid.mk hPP
                have hl_6 : w1.heap.size < W6.heap.size := (Array.getElem?_eq_some_iff.1 hpb7).1
                clear hpb hPP hpb7
                go_wp2_with fail
                refine (HW2.out _).mono ?_
                rintro e w8 ⟨hb8, rfl⟩
                have HP8 := Hid.mk (HP6.out.low hb8)
                obtain ⟨c0, c1, c2, c3, c4, c5, c6, f0, f1, f2, f3, f4, f5, f6⟩ := box7_cells HP8.out.res
                have HX := Hid.mk HP8.out.res
                have HB := Hid.mk HP8.out.bel
                clear hb8
                unfold bad5 ans5
                go_wp2_with fail
                (try simp only [Exit.inBlock, Exit.then])
                generalize hz7 : (((((((w8.setCell ⟨w.heap.size, 0, none⟩ (.int .i64 0)).setCell ⟨w.heap.size, 1, none⟩ (.string ⟨#[]⟩)).setCell ⟨w.heap.size, 2, none⟩ (.string ⟨#[]⟩)).setCell ⟨w.heap.size, 3, none⟩ (.slice none 0 0)).setCell ⟨w.heap.size, 4, none⟩ (.slice none 0 0)).setCell ⟨w.heap.size, 5, none⟩ (.int .i64 (a' : Int))).setCell ⟨w.heap.size, 6, none⟩ (.int .i64 (er : Int))) = wz
                obtain ⟨e7, k7, s7⟩ := rbox_set7 w8 _ _ _ _ _ _ _ _ _ _ _ _ _ _ _ _ HX.out wz hz7.symm
                obtain ⟨d0, d1, d2, d3, d4, d5, d6, _⟩ := box7_cells e7
                have hbz : Below w.heap.size w wz := by rw [← hz7]; exact ((((((HB.out.setCell (p := ⟨w.heap.size, 0, none⟩) (by show w.heap.size ≤ w.heap.size; omega) _).setCell (p := ⟨w.heap.size, 1, none⟩) (by show w.heap.size ≤ w.heap.size; omega) _).setCell (p := ⟨w.heap.size, 2, none⟩) (by show w.heap.size ≤ w.heap.size; omega) _).setCell (p := ⟨w.heap.size, 3, none⟩) (by show w.heap.size ≤ w.heap.size; omega) _).setCell (p := ⟨w.heap.size, 4, none⟩) (by show w.heap.size ≤ w.heap.size; omega) _).setCell (p := ⟨w.heap.size, 5, none⟩) (by show w.heap.size ≤ w.heap.size; omega) _).setCell (p := ⟨w.heap.size, 6, none⟩) (by show w.heap.size ≤ w.heap.size; omega) _
                refine bodyPost_ret (v := .agg #[.int .i64 0, .string ⟨#[]⟩, .string ⟨#[]⟩, .slice none 0 0, .slice none 0 0, .int .i64 (a' : Int), .int .i64 (er : Int)]) (by simp [results, Tryz.results49, go_sem, d0, d1, d2, d3, d4, d5, d6]) rfl ?_
                exact ⟨hbz, by rw [← HRR.out]; exact ⟨HE0.out, rfl⟩⟩
              · have hs2 : ¬ sg = 58 := hs1
                have hsb : (((sg : Nat) : Int) == 58) = false := by rw [beq_eq_false_iff_ne]; omega
                have hsn : ¬ ((sg : Nat) : Int) = 58 := by omega
                clear hs1 hs2
                obtain ⟨y0, y1, y2, y3, y4, hpb⟩ := HP5.out.pb
                obtain ⟨p0_6, p1_6, p2_6, p3_6, p4_6, pf0_6, pf1_6, pf2_6, pf3_6, pf4_6⟩ := vbox_cells hpb
                obtain ⟨W6, hW6⟩ : ∃ W6, (((((w5.setCell ⟨w1.heap.size, 0, none⟩ (.int .u8 (sg : Int))).setCell ⟨w1.heap.size, 1, none⟩ (.int .i64 (a' : Int))).setCell ⟨w1.heap.size, 2, none⟩ (.int .i64 (z' : Int))).setCell ⟨w1.heap.size, 3, none⟩ (.string ⟨tx'.toArray⟩)).setCell ⟨w1.heap.size, 4, none⟩ (.int .i64 0)) = W6 := ⟨_, rfl⟩
                obtain ⟨hPP, hpb7⟩ := HP5.out.pset _ _ _ _ _ W6 hW6.symm
                obtain ⟨r0_6, r1_6, r2_6, r3_6, r4_6, _, _, _, _, _⟩ := vbox_cells hpb7
                have HP6 := Hid.mk hPP
                have hl_6 : w1.heap.size < W6.heap.size := (Array.getElem?_eq_some_iff.1 hpb7).1
                clear hpb hPP hpb7
                go_wp2_with fail
                refine (HW2.out _).mono ?_
                rintro e w8 ⟨hb8, rfl⟩
                have HP8 := Hid.mk (HP6.out.low hb8)
                obtain ⟨c0, c1, c2, c3, c4, c5, c6, f0, f1, f2, f3, f4, f5, f6⟩ := box7_cells HP8.out.res
                have HX := Hid.mk HP8.out.res
                have HB := Hid.mk HP8.out.bel
                clear hb8
                unfold bad5 ans5
                go_wp2_with fail
                (try simp only [Exit.inBlock, Exit.then])
                generalize hz7 : (((((((w8.setCell ⟨w.heap.size, 0, none⟩ (.int .i64 0)).setCell ⟨w.heap.size, 1, none⟩ (.string ⟨#[]⟩)).setCell ⟨w.heap.size, 2, none⟩ (.string ⟨#[]⟩)).setCell ⟨w.heap.size, 3, none⟩ (.slice none 0 0)).setCell ⟨w.heap.size, 4, none⟩ (.slice none 0 0)).setCell ⟨w.heap.size, 5, none⟩ (.int .i64 (a' : Int))).setCell ⟨w.heap.size, 6, none⟩ (.int .i64 (er : Int))) = wz
                obtain ⟨e7, k7, s7⟩ := rbox_set7 w8 _ _ _ _ _ _ _ _ _ _ _ _ _ _ _ _ HX.out wz hz7.symm
                obtain ⟨d0, d1, d2, d3, d4, d5, d6, _⟩ := box7_cells e7
                have hbz : Below w.heap.size w wz := by rw [← hz7]; exact ((((((HB.out.setCell (p := ⟨w.heap.size, 0, none⟩) (by show w.heap.size ≤ w.heap.size; omega) _).setCell (p := ⟨w.heap.size, 1, none⟩) (by show w.heap.size ≤ w.heap.size; omega) _).setCell (p := ⟨w.heap.size, 2, none⟩) (by show w.heap.size ≤ w.heap.size; omega) _).setCell (p := ⟨w.heap.size, 3, none⟩) (by show w.heap.size ≤ w.heap.size; omega) _).setCell (p := ⟨w.heap.size, 4, none⟩) (by show w.heap.size ≤ w.heap.size; omega) _).setCell (p := ⟨w.heap.size, 5, none⟩) (by show w.heap.size ≤ w.heap.size; omega) _).setCell (p := ⟨w.heap.size, 6, none⟩) (by show w.heap.size ≤ w.heap.size; omega) _
                refine bodyPost_ret (v := .agg #[.int .i64 0, .string ⟨#[]⟩, .string ⟨#[]⟩, .slice none 0 0, .slice none 0 0, .int .i64 (a' : Int), .int .i64 (er : Int)]) (by simp [results, Tryz.results49, go_sem, d0, d1, d2, d3, d4, d5, d6]) rfl ?_
                exact ⟨hbz, by rw [← HRR.out]; exact ⟨HE0.out, rfl⟩⟩
        · skip
          have HRR : Hid (Rd.bad er a = R) := by
            show _ = _
            rw [← HG.out, rgA (z := z) (er := er) (a := a) (by rcases hmm with h | ⟨t, h1, h2, h3, h4, _⟩; exact .inl h.1; exact .inr ⟨t, h1, h2, h3, h4⟩)]
            rfl
          have HE0 := Hid.mk he0
          have HW2 : Hid (∀ u, Calls Tryz.prog 46 #[.agg #[.int .u8 (sg : Int), .int .i64 (a : Int), .int .i64 (z : Int), .string ⟨tx.toArray⟩, .int .i64 (cd : Int)]] u fun e w' => Below u.heap.size u w' ∧ e = .returned (bad5 a er)) := fun u => by
            have hw := HWr.out sg a z tx cd u
            rw [hee] at hw
            exact hw
          clear hee hmm he0 HG
          unfold pc5
          rcases hbad with hc0 | ⟨rfl, hs1⟩
          · have hcb : (((cd : Nat) : Int) == 0) = false := by rw [beq_eq_false_iff_ne]; omega
            have hcn : ¬ ((cd : Nat) : Int) = 0 := by omega
            clear hc0
            obtain ⟨y0, y1, y2, y3, y4, hpb⟩ := HP2.out.pb
            obtain ⟨p0_3, p1_3, p2_3, p3_3, p4_3, pf0_3, pf1_3, pf2_3, pf3_3, pf4_3⟩ := vbox_cells hpb
            obtain ⟨W3, hW3⟩ : ∃ W3, (((((w2.setCell ⟨w1.heap.size, 0, none⟩ (.int .u8 (sg : Int))).setCell ⟨w1.heap.size, 1, none⟩ (.int .i64 (a : Int))).setCell ⟨w1.heap.size, 2, none⟩ (.int .i64 (z : Int))).setCell ⟨w1.heap.size, 3, none⟩ (.string ⟨tx.toArray⟩)).setCell ⟨w1.heap.size, 4, none⟩ (.int .i64 (cd : Int))) = W3 := ⟨_, rfl⟩
            obtain ⟨hPP, hpb7⟩ := HP2.out.pset _ _ _ _ _ W3 hW3.symm
            obtain ⟨r0_3, r1_3, r2_3, r3_3, r4_3, _, _, _, _, _⟩ := vbox_cells hpb7
            have HP3 := Hid.mk hPP
            have hl_3 : w1.heap.size < W3.heap.size := (Array.getElem?_eq_some_iff.1 hpb7).1
            clear hpb hPP hpb7
            go_wp2_with fail
            refine (HW2.out _).mono ?_
            rintro e w8 ⟨hb8, rfl⟩
            have HP8 := Hid.mk (HP3.out.low hb8)
            obtain ⟨c0, c1, c2, c3, c4, c5, c6, f0, f1, f2, f3, f4, f5, f6⟩ := box7_cells HP8.out.res
            have HX := Hid.mk HP8.out.res
            have HB := Hid.mk HP8.out.bel
            clear hb8
            unfold bad5 ans5
            go_wp2_with fail
            (try simp only [Exit.inBlock, Exit.then])
            generalize hz7 : (((((((w8.setCell ⟨w.heap.size, 0, none⟩ (.int .i64 0)).setCell ⟨w.heap.size, 1, none⟩ (.string ⟨#[]⟩)).setCell ⟨w.heap.size, 2, none⟩ (.string ⟨#[]⟩)).setCell ⟨w.heap.size, 3, none⟩ (.slice none 0 0)).setCell ⟨w.heap.size, 4, none⟩ (.slice none 0 0)).setCell ⟨w.heap.size, 5, none⟩ (.int .i64 (a : Int))).setCell ⟨w.heap.size, 6, none⟩ (.int .i64 (er : Int))) = wz
            obtain ⟨e7, k7, s7⟩ := rbox_set7 w8 _ _ _ _ _ _ _ _ _ _ _ _ _ _ _ _ HX.out wz hz7.symm
            obtain ⟨d0, d1, d2, d3, d4, d5, d6, _⟩ := box7_cells e7
            have hbz : Below w.heap.size w wz := by rw [← hz7]; exact ((((((HB.out.setCell (p := ⟨w.heap.size, 0, none⟩) (by show w.heap.size ≤ w.heap.size; omega) _).setCell (p := ⟨w.heap.size, 1, none⟩) (by show w.heap.size ≤ w.heap.size; omega) _).setCell (p := ⟨w.heap.size, 2, none⟩) (by show w.heap.size ≤ w.heap.size; omega) _).setCell (p := ⟨w.heap.size, 3, none⟩) (by show w.heap.size ≤ w.heap.size; omega) _).setCell (p := ⟨w.heap.size, 4, none⟩) (by show w.heap.size ≤ w.heap.size; omega) _).setCell (p := ⟨w.heap.size, 5, none⟩) (by show w.heap.size ≤ w.heap.size; omega) _).setCell (p := ⟨w.heap.size, 6, none⟩) (by show w.heap.size ≤ w.heap.size; omega) _
            refine bodyPost_ret (v := .agg #[.int .i64 0, .string ⟨#[]⟩, .string ⟨#[]⟩, .slice none 0 0, .slice none 0 0, .int .i64 (a : Int), .int .i64 (er : Int)]) (by simp [results, Tryz.results49, go_sem, d0, d1, d2, d3, d4, d5, d6]) rfl ?_
            exact ⟨hbz, by rw [← HRR.out]; exact ⟨HE0.out, rfl⟩⟩
          · have hs2 : ¬ sg = 34 := hs1
            have hsb : (((sg : Nat) : Int) == 34) = false := by rw [beq_eq_false_iff_ne]; omega
            have hsn : ¬ ((sg : Nat) : Int) = 34 := by omega
            clear hs1 hs2
            obtain ⟨y0, y1, y2, y3, y4, hpb⟩ := HP2.out.pb
            obtain ⟨p0_3, p1_3, p2_3, p3_3, p4_3, pf0_3, pf1_3, pf2_3, pf3_3, pf4_3⟩ := vbox_cells hpb
            obtain ⟨W3, hW3⟩ : ∃ W3, (((((w2.setCell ⟨w1.heap.size, 0, none⟩ (.int .u8 (sg : Int))).setCell ⟨w1.heap.size, 1, none⟩ (.int .i64 (a : Int))).setCell ⟨w1.heap.size, 2, none⟩ (.int .i64 (z : Int))).setCell ⟨w1.heap.size, 3, none⟩ (.string ⟨tx.toArray⟩)).setCell ⟨w1.heap.size, 4, none⟩ (.int .i64 0)) = W3 := ⟨_, rfl⟩
            obtain ⟨hPP, hpb7⟩ := HP2.out.pset _ _ _ _ _ W3 hW3.symm
            obtain ⟨r0_3, r1_3, r2_3, r3_3, r4_3, _, _, _, _, _⟩ := vbox_cells hpb7
            have HP3 := Hid.mk hPP
            have hl_3 : w1.heap.size < W3.heap.size := (Array.getElem?_eq_some_iff.1 hpb7).1
            clear hpb hPP hpb7
            go_wp2_with fail
            refine (HW2.out _).mono ?_
            rintro e w8 ⟨hb8, rfl⟩
            have HP8 := Hid.mk (HP3.out.low hb8)
            obtain ⟨c0, c1, c2, c3, c4, c5, c6, f0, f1, f2, f3, f4, f5, f6⟩ := box7_cells HP8.out.res
            have HX := Hid.mk HP8.out.res
            have HB := Hid.mk HP8.out.bel
            clear hb8
            unfold bad5 ans5
            go_wp2_with fail
            (try simp only [Exit.inBlock, Exit.then])
            generalize hz7 : (((((((w8.setCell ⟨w.heap.size, 0, none⟩ (.int .i64 0)).setCell ⟨w.heap.size, 1, none⟩ (.string ⟨#[]⟩)).setCell ⟨w.heap.size, 2, none⟩ (.string ⟨#[]⟩)).setCell ⟨w.heap.size, 3, none⟩ (.slice none 0 0)).setCell ⟨w.heap.size, 4, none⟩ (.slice none 0 0)).setCell ⟨w.heap.size, 5, none⟩ (.int .i64 (a : Int))).setCell ⟨w.heap.size, 6, none⟩ (.int .i64 (er : Int))) = wz
            obtain ⟨e7, k7, s7⟩ := rbox_set7 w8 _ _ _ _ _ _ _ _ _ _ _ _ _ _ _ _ HX.out wz hz7.symm
            obtain ⟨d0, d1, d2, d3, d4, d5, d6, _⟩ := box7_cells e7
            have hbz : Below w.heap.size w wz := by rw [← hz7]; exact ((((((HB.out.setCell (p := ⟨w.heap.size, 0, none⟩) (by show w.heap.size ≤ w.heap.size; omega) _).setCell (p := ⟨w.heap.size, 1, none⟩) (by show w.heap.size ≤ w.heap.size; omega) _).setCell (p := ⟨w.heap.size, 2, none⟩) (by show w.heap.size ≤ w.heap.size; omega) _).setCell (p := ⟨w.heap.size, 3, none⟩) (by show w.heap.size ≤ w.heap.size; omega) _).setCell (p := ⟨w.heap.size, 4, none⟩) (by show w.heap.size ≤ w.heap.size; omega) _).setCell (p := ⟨w.heap.size, 5, none⟩) (by show w.heap.size ≤ w.heap.size; omega) _).setCell (p := ⟨w.heap.size, 6, none⟩) (by show w.heap.size ≤ w.heap.size; omega) _
            refine bodyPost_ret (v := .agg #[.int .i64 0, .string ⟨#[]⟩, .string ⟨#[]⟩, .slice none 0 0, .slice none 0 0, .int .i64 (a : Int), .int .i64 (er : Int)]) (by simp [results, Tryz.results49, go_sem, d0, d1, d2, d3, d4, d5, d6]) rfl ?_
            exact ⟨hbz, by rw [← HRR.out]; exact ⟨HE0.out, rfl⟩⟩
    · have hs2 : ¬ sg = 125 := hs1
      have hsb : (((sg : Nat) : Int) == 125) = false := by rw [beq_eq_false_iff_ne]; omega
      have hsn : ¬ ((sg : Nat) : Int) = 125 := by omega
      go_wp2_with fail
      clear hs1 hs2 hsb hsn
      go_loopw [1] (fun q' wr => ∃ (f : Nat) (fs : List (List UInt8 × VT)) (q : Nat), q ≤ s.size ∧ q' = .int .i64 (q : Int) ∧ Hid (s.size < q + f) ∧ Hid (ROs (w1.heap.size + 1) w1.heap.size h fs w wr) ∧ Hid (toO (RgO s.data.toList vl f fs q) = R) ∧ Hid (fs.length ≤ q ∧ ∀ g ∈ fs, g.1.length ≤ 140737488355328)) (fun a _ => s.size + 1 - (intOf a).toNat)
      case atStart => exact ⟨s.size + 1, [], p, hp, rfl, (by show s.size < p + (s.size + 1); omega), HS1, HRG, ⟨Nat.zero_le _, fun g hg => by cases hg⟩⟩
      case round =>
        clear HS1 HRG
        obtain ⟨f, fs, q, hq, rfl, HF, HS, HG, HFit⟩ := hrel
        obtain ⟨f, rfl⟩ : ∃ f', f = f' + 1 := ⟨f - 1, by have := HF.out; omega⟩
        have hle : (q : Int) ≤ (s.size : Int) := by omega
        go_wp2_with fail
        refine (HN.out _ q hq).mono ?_
        rintro e w2 ⟨hb2, hnx⟩
        have HP2 := Hid.mk (HS.out.low hb2)
        obtain ⟨sg, a, z, tx, cd, rfl, hcase⟩ := nx5_is hnx 11 (by omega)
        clear hnx hb2 HS
        rcases hcase with ⟨rfl, rfl, t, hm, hk, ha, htx⟩ | ⟨hbad, er, he0, hee, hmm⟩
        · obtain ⟨v5, v6⟩ := mustL_up (l := s.data.toList) (by omega) hm
          have hz : z ≤ s.size := by omega
          have hqz : q < z := v5
          have htl : tx.length ≤ 140737488355328 := by have := mustL_text hm; rw [htx] at this; omega
          rw [show sg5 11 = 34 from rfl]
          unfold pc5
          have HM := Hid.mk (And.intro hm (And.intro hk (And.intro ha htx)))
          clear hm hk ha htx v5 v6
          obtain ⟨y0, y1, y2, y3, y4, hpb⟩ := HP2.out.pb
          obtain ⟨p0_3, p1_3, p2_3, p3_3, p4_3, pf0_3, pf1_3, pf2_3, pf3_3, pf4_3⟩ := vbox_cells hpb
          obtain ⟨W3, hW3⟩ : ∃ W3, (((((w2.setCell ⟨w1.heap.size, 0, none⟩ (.int .u8 34)).setCell ⟨w1.heap.size, 1, none⟩ (.int .i64 (a : Int))).setCell ⟨w1.heap.size, 2, none⟩ (.int .i64 (z : Int))).setCell ⟨w1.heap.size, 3, none⟩ (.string ⟨tx.toArray⟩)).setCell ⟨w1.heap.size, 4, none⟩ (.int .i64 0)) = W3 := ⟨_, rfl⟩
          obtain ⟨hPP, hpb7⟩ := HP2.out.pset _ _ _ _ _ W3 hW3.symm
          obtain ⟨r0_3, r1_3, r2_3, r3_3, r4_3, _, _, _, _, _⟩ := vbox_cells hpb7
          have HP3 := Hid.mk hPP
          have hl_3 : w1.heap.size < W3.heap.size := (Array.getElem?_eq_some_iff.1 hpb7).1
          clear hpb hPP hpb7
          obtain ⟨io, ic, ko, kc, hO3, hI3⟩ := HP3.out.obj
          obtain ⟨o0, o1, o2, o3, o4, _, _, _, _, _⟩ := vbox_cells hO3
          have hw3 : w.heap.size + 1 < W3.heap.size := (Array.getElem?_eq_some_iff.1 hO3).1
          have HHas := Hid.mk (w_5HasO hI3 tx)
          clear hO3 hI3
          go_wp2_with fail
          refine HHas.out.mono ?_
          rintro e w4 ⟨rfl, rfl⟩
          cases hany : (fs.any fun f => f.1 == tx) with
          | true =>
            have HRR : Hid (Rd.bad 53 a = R) := by
              show _ = _
              obtain ⟨m1, m2, m3, m4⟩ := HM.out
              rw [← HG.out, rgT m1 m2 (by rw [m4]; exact hany), m3]
              rfl
            have HW2 : Hid (∀ u, Calls Tryz.prog 47 #[.int .i64 53, .int .i64 (a : Int)] u fun e w' => Below u.heap.size u w' ∧ e = .returned (bad5 a 53)) := fun u => w_5bad 53 a u
            clear HM HG hany
            go_wp2_with fail
            refine (HW2.out _).mono ?_
            rintro e w8 ⟨hb8, rfl⟩
            have HP8 := Hid.mk (HP3.out.low hb8)
            obtain ⟨c0, c1, c2, c3, c4, c5, c6, f0, f1, f2, f3, f4, f5, f6⟩ := box7_cells HP8.out.res
            have HX := Hid.mk HP8.out.res
            have HB := Hid.mk HP8.out.bel
            clear hb8
            unfold bad5 ans5
            go_wp2_with fail
            (try simp only [Exit.inBlock, Exit.then])
            generalize hz7 : (((((((w8.setCell ⟨w.heap.size, 0, none⟩ (.int .i64 0)).setCell ⟨w.heap.size, 1, none⟩ (.string ⟨#[]⟩)).setCell ⟨w.heap.size, 2, none⟩ (.string ⟨#[]⟩)).setCell ⟨w.heap.size, 3, none⟩ (.slice none 0 0)).setCell ⟨w.heap.size, 4, none⟩ (.slice none 0 0)).setCell ⟨w.heap.size, 5, none⟩ (.int .i64 (a : Int))).setCell ⟨w.heap.size, 6, none⟩ (.int .i64 53)) = wz
            obtain ⟨e7, k7, s7⟩ := rbox_set7 w8 _ _ _ _ _ _ _ _ _ _ _ _ _ _ _ _ HX.out wz hz7.symm
            obtain ⟨d0, d1, d2, d3, d4, d5, d6, _⟩ := box7_cells e7
            have hbz : Below w.heap.size w wz := by rw [← hz7]; exact ((((((HB.out.setCell (p := ⟨w.heap.size, 0, none⟩) (by show w.heap.size ≤ w.heap.size; omega) _).setCell (p := ⟨w.heap.size, 1, none⟩) (by show w.heap.size ≤ w.heap.size; omega) _).setCell (p := ⟨w.heap.size, 2, none⟩) (by show w.heap.size ≤ w.heap.size; omega) _).setCell (p := ⟨w.heap.size, 3, none⟩) (by show w.heap.size ≤ w.heap.size; omega) _).setCell (p := ⟨w.heap.size, 4, none⟩) (by show w.heap.size ≤ w.heap.size; omega) _).setCell (p := ⟨w.heap.size, 5, none⟩) (by show w.heap.size ≤ w.heap.size; omega) _).setCell (p := ⟨w.heap.size, 6, none⟩) (by show w.heap.size ≤ w.heap.size; omega) _
            refine bodyPost_ret (v := .agg #[.int .i64 0, .string ⟨#[]⟩, .string ⟨#[]⟩, .slice none 0 0, .slice none 0 0, .int .i64 (a : Int), .int .i64 53]) (by simp [results, Tryz.results49, go_sem, d0, d1, d2, d3, d4, d5, d6]) rfl ?_
            exact ⟨hbz, by rw [← HRR.out]; exact ⟨by omega, rfl⟩⟩
          | false =>
            have HAny := Hid.mk hany
            clear hany
            go_wp2_with fail
            refine (HN.out _ z hz).mono ?_
            rintro e w5 ⟨hb5, hnx⟩
            have HP5 := Hid.mk (HP3.out.low hb5)
            obtain ⟨sg, a', z', tx', cd, rfl, hcase⟩ := nx5_is hnx 5 (by omega)
            have hz5 := hb5.size
            clear hnx hb5
            rcases hcase with ⟨rfl, rfl, t2, hm2, hk2, ha2, htx2⟩ | ⟨hbad, er, he0, hee, hmm⟩
            · obtain ⟨v5, v6⟩ := mustL_up (l := s.data.toList) (by omega) hm2
              have hz' : z' ≤ s.size := by omega
              have hzz : z < z' := v5
              rw [show sg5 5 = 58 from rfl]
              unfold pc5
              have HGC : Hid ((match rdL s.data.toList vl z' with | .bad e q' => Rd.bad e q' | .ok v p3 => toO (loopL s.data.toList 2 (oPt s.data.toList vl) (f + 1) (fs ++ [(tx, v)]) p3)) = R) := by
                show _ = _
                obtain ⟨m1, m2, m3, m4⟩ := HM.out
                rw [← HG.out, rgC m1 m2 (by rw [m4]; exact HAny.out) hm2 hk2, m4]
                cases rdL s.data.toList vl z' <;> rfl
              clear hm2 hk2 ha2 htx2 v5 v6 HM HG
              obtain ⟨y0, y1, y2, y3, y4, hpb⟩ := HP5.out.pb
              obtain ⟨p0_6, p1_6, p2_6, p3_6, p4_6, pf0_6, pf1_6, pf2_6, pf3_6, pf4_6⟩ := vbox_cells hpb
              obtain ⟨W6, hW6⟩ : ∃ W6, (((((w5.setCell ⟨w1.heap.size, 0, none⟩ (.int .u8 58)).setCell ⟨w1.heap.size, 1, none⟩ (.int .i64 (a' : Int))).setCell ⟨w1.heap.size, 2, none⟩ (.int .i64 (z' : Int))).setCell ⟨w1.heap.size, 3, none⟩ (.string ⟨tx'.toArray⟩)).setCell ⟨w1.heap.size, 4, none⟩ (.int .i64 0)) = W6 := ⟨_, rfl⟩
              obtain ⟨hPP, hpb7⟩ := HP5.out.pset _ _ _ _ _ W6 hW6.symm
              obtain ⟨r0_6, r1_6, r2_6, r3_6, r4_6, _, _, _, _, _⟩ := vbox_cells hpb7
              have HP6 := Hid.mk hPP
              have hl_6 : w1.heap.size < W6.heap.size := (Array.getElem?_eq_some_iff.1 hpb7).1
              clear hpb hPP hpb7
              go_wp2_with fail
              refine (HRd.out z' _ hz').mono ?_
              rintro e w7 ⟨hb7, hmr⟩
              have HP7 := Hid.mk (HP6.out.low hb7)
              have hlo6 := HP6.out.ll
              have hG := HGC.out
              cases hr : rdL s.data.toList vl z' with
              | bad er q2 =>
                rw [hr] at hmr hG
                obtain ⟨h0, rfl⟩ := hmr
                have HRR : Hid (Rd.bad er q2 = R) := hG
                have H0 := Hid.mk h0
                have hcb : (((er : Nat) : Int) == 0) = false := by rw [beq_eq_false_iff_ne]; omega
                have hcn : ¬ ((er : Nat) : Int) = 0 := by omega
                obtain ⟨c0, c1, c2, c3, c4, c5, c6, f0, f1, f2, f3, f4, f5, f6⟩ := box7_cells HP7.out.res
                have hw2 : w.heap.size < w7.heap.size := (Array.getElem?_eq_some_iff.1 HP7.out.res).1
                clear hr hG h0 hb7 HGC
                unfold bad5 ans5
                go_wp2_with fail
                (try simp only [Exit.inBlock, Exit.then])
                have HX := Hid.mk HP7.out.res
                have HB := Hid.mk HP7.out.bel
                generalize hz7 : (((((((w7.setCell ⟨w.heap.size, 0, none⟩ (.int .i64 0)).setCell ⟨w.heap.size, 1, none⟩ (.string ⟨#[]⟩)).setCell ⟨w.heap.size, 2, none⟩ (.string ⟨#[]⟩)).setCell ⟨w.heap.size, 3, none⟩ (.slice none 0 0)).setCell ⟨w.heap.size, 4, none⟩ (.slice none 0 0)).setCell ⟨w.heap.size, 5, none⟩ (.int .i64 (q2 : Int))).setCell ⟨w.heap.size, 6, none⟩ (.int .i64 (er : Int))) = wz
                obtain ⟨e7, k7, s7⟩ := rbox_set7 w7 _ _ _ _ _ _ _ _ _ _ _ _ _ _ _ _ HX.out wz hz7.symm
                have e8 := (Below.heap_alloc wz (.cells #[.int .i64 0, .string ⟨#[]⟩, .string ⟨#[]⟩, .slice none 0 0, .slice none 0 0, .int .i64 (q2 : Int), .int .i64 (er : Int)] 72) w.heap.size (by omega)).trans e7
                obtain ⟨d0, d1, d2, d3, d4, d5, d6, _⟩ := box7_cells e8
                have hbz : Below w.heap.size w wz := by rw [← hz7]; exact ((((((HB.out.setCell (p := ⟨w.heap.size, 0, none⟩) (Nat.le_refl _) _).setCell (p := ⟨w.heap.size, 1, none⟩) (Nat.le_refl _) _).setCell (p := ⟨w.heap.size, 2, none⟩) (Nat.le_refl _) _).setCell (p := ⟨w.heap.size, 3, none⟩) (Nat.le_refl _) _).setCell (p := ⟨w.heap.size, 4, none⟩) (Nat.le_refl _) _).setCell (p := ⟨w.heap.size, 5, none⟩) (Nat.le_refl _) _).setCell (p := ⟨w.heap.size, 6, none⟩) (Nat.le_refl _) _
                refine bodyPost_ret (v := .agg #[.int .i64 0, .string ⟨#[]⟩, .string ⟨#[]⟩, .slice none 0 0, .slice none 0 0, .int .i64 (q2 : Int), .int .i64 (er : Int)]) (by simp [results, Tryz.results49, go_sem, d0, d1, d2, d3, d4, d5, d6]) rfl ?_
                rw [← HRR.out]
                exact ⟨hbz.alloc hbz.size _, H0.out, rfl⟩
              | ok T q2 =>
                rw [hr] at hmr hG
                dsimp only at hG
                obtain ⟨u1, u2⟩ := rdL_up HUp.out hz' hr
                obtain ⟨x0, x1, x2, x3, x4, rfl, hFv⟩ := hmr
                obtain ⟨jo, jc, jk, jkc, hv, hrest⟩ := id hFv
                simp only [Value.agg.injEq, Array.mk.injEq, List.cons.injEq, and_true] at hv
                obtain ⟨rfl, rfl, rfl, rfl, rfl⟩ := hv
                clear hrest
                have HG2 := Hid.mk hG
                obtain ⟨W8, hW8⟩ : ∃ W8, w7.alloc (.cells #[.int .i64 T.kind, .string T.num, .string T.text, .slice jo T.items.length jc, .slice jk T.keys.length jkc, .int .i64 (q2 : Int), .int .i64 0] 72) = W8 := ⟨_, rfl⟩
                have hb8 : Below w7.heap.size w7 W8 := by rw [← hW8]; exact below1 w7 _
                have HP8 := Hid.mk (HP7.out.low hb8)
                have ha8 : W8.heap[w7.heap.size]? = some (.cells #[.int .i64 T.kind, .string T.num, .string T.text, .slice jo T.items.length jc, .slice jk T.keys.length jkc, .int .i64 (q2 : Int), .int .i64 0] 72 (0, 0)) := by rw [← hW8]; exact heap_alloc_new w7 _
                obtain ⟨io8, ic8, ko8, kc8, hO7, hI7⟩ := HP7.out.obj
                obtain ⟨o0', o1', o2', o3', o4', of0, of1, of2, of3, of4⟩ := vbox_cells hO7
                have hI8 := hI7.low hb8
                have hT8 : InF (w1.heap.size + 1) W8 (h + 1) T (.agg #[.int .i64 T.kind, .string T.num, .string T.text, .slice jo T.items.length jc, .slice jk T.keys.length jkc]) := (InF.keepB (Nat.le_refl _) (fun b _ _ => rfl) hlo6 hFv).low hb8
                have hw8s : W8.heap.size = w7.heap.size + 1 := by rw [← hW8]; simp
                have hwv8 : w.heap.size + 1 < w7.heap.size := (Array.getElem?_eq_some_iff.1 hO7).1
                have HW8e := Hid.mk hW8
                have hWi := w_5with (w1.heap.size + 1) h fs.length fs tx T W8 _ _ HP8.out.ll rfl (by have := HFit.out.1; omega) htl HFit.out.2 hI8 hT8
                have HWi := Hid.mk hWi
                have HA8 := Hid.mk ha8
                have HW8 := Hid.mk hw8s
                clear hr hG hFv hb7 hb8 HGC hI8 hT8 hO7 hI7 ha8 hWi hw8s hW8
                unfold ans5
                go_wp2_with fail
                rw [HW8e.out]
                refine HWi.out.mono ?_
                rintro e w9 ⟨hb9, io9, ic9, ko9, kc9, rfl, hI9⟩
                have HP9 := Hid.mk (HP8.out.low hb9)
                obtain ⟨io9', ic9', ko9', kc9', hO9, _⟩ := HP9.out.obj
                obtain ⟨t0, t1, t2', t3, t4, tf0, tf1, tf2, tf3, tf4⟩ := vbox_cells hO9
                obtain ⟨W9, hW9⟩ : ∃ W9, (((((w9.setCell ⟨w.heap.size + 1, 0, none⟩ (.int .i64 6)).setCell ⟨w.heap.size + 1, 1, none⟩ (.string ⟨#[]⟩)).setCell ⟨w.heap.size + 1, 2, none⟩ (.string ⟨#[]⟩)).setCell ⟨w.heap.size + 1, 3, none⟩ ((.slice io9 (fs.length + 1) ic9))).setCell ⟨w.heap.size + 1, 4, none⟩ ((.slice ko9 (fs.length + 1) kc9))) = W9 := ⟨_, rfl⟩
                have e9 : (fs ++ [(tx, T)]).length = fs.length + 1 := by rw [List.length_append]; rfl
                obtain ⟨hP10, hk10, hs10⟩ := HP9.out.vset (fs' := fs ++ [(tx, T)]) (by rw [e9]; exact hI9) W9 (by rw [e9]; exact hW9.symm)
                have ha9 : W9.heap[w7.heap.size]? = some (.cells #[.int .i64 T.kind, .string T.num, .string T.text, .slice jo T.items.length jc, .slice jk T.keys.length jkc, .int .i64 (q2 : Int), .int .i64 0] 72 (0, 0)) := (hk10 _ (by have h1 := HP7.out.pl; have h2 := HP7.out.pl2; have h3 := HP7.out.ll; omega)).trans ((hb9.block _ (by have := HW8.out; omega)).trans HA8.out)
                have q55 := (box7_cells ha9).2.2.2.2.2.1
                have HP10 := Hid.mk hP10
                have hag9 : w7.heap.size < W9.heap.size := (Array.getElem?_eq_some_iff.1 ha9).1
                have HQ := Hid.mk (And.intro u1 u2)
                clear hb9 hI9 hO9 hP10 hk10 hs10 ha9 e9 HW8e o0' o1' o2' o3' o4' of0 of1 of2 of3 of4
                go_wp2_with fail
                refine (HN.out _ q2 u2).mono ?_
                rintro e w11 ⟨hb11, hnx⟩
                have HP11 := Hid.mk (HP10.out.low hb11)
                clear hb11
                obtain ⟨sg, a, z, tx2, cd, rfl, hcase⟩ := nx5_is hnx 2 (by omega)
                clear hnx
                rcases hcase with ⟨rfl, rfl, t3, hm3, hk3, ha3, htx3⟩ | ⟨hbad, er, he0, hee, hmm⟩
                · have HRR : Hid (Rd.ok (objT (fs ++ [(tx, T)])) z = R) := by
                    show _ = _
                    rw [← HG2.out, loopL, hm3]
                    dsimp only
                    rw [if_pos hk3]
                    rfl
                  clear HG2 hm3 hk3 ha3 htx3
                  rw [show sg5 2 = 125 from rfl]
                  unfold pc5
                  obtain ⟨y0, y1, y2, y3, y4, hpb⟩ := HP11.out.pb
                  obtain ⟨p0_12, p1_12, p2_12, p3_12, p4_12, pf0_12, pf1_12, pf2_12, pf3_12, pf4_12⟩ := vbox_cells hpb
                  obtain ⟨W12, hW12⟩ : ∃ W12, (((((w11.setCell ⟨w1.heap.size, 0, none⟩ (.int .u8 125)).setCell ⟨w1.heap.size, 1, none⟩ (.int .i64 (a : Int))).setCell ⟨w1.heap.size, 2, none⟩ (.int .i64 (z : Int))).setCell ⟨w1.heap.size, 3, none⟩ (.string ⟨tx2.toArray⟩)).setCell ⟨w1.heap.size, 4, none⟩ (.int .i64 0)) = W12 := ⟨_, rfl⟩
                  obtain ⟨hPP, hpb7⟩ := HP11.out.pset _ _ _ _ _ W12 hW12.symm
                  obtain ⟨r0_12, r1_12, r2_12, r3_12, r4_12, _, _, _, _, _⟩ := vbox_cells hpb7
                  have HP12 := Hid.mk hPP
                  have hl_12 : w1.heap.size < W12.heap.size := (Array.getElem?_eq_some_iff.1 hpb7).1
                  clear hpb hPP hpb7
                  obtain ⟨ioA, icA, koA, kcA, hOA, hIA⟩ := HP12.out.obj
                  obtain ⟨g0, g1, g2, g3, g4, _, _, _, _, _⟩ := vbox_cells hOA
                  obtain ⟨c0, c1, c2, c3, c4, c5, c6, f0, f1, f2, f3, f4, f5, f6⟩ := box7_cells HP12.out.res
                  have hlw : w.heap.size < W12.heap.size := (Array.getElem?_eq_some_iff.1 HP12.out.res).1
                  have hlv : w.heap.size + 1 < W12.heap.size := (Array.getElem?_eq_some_iff.1 hOA).1
                  have HIA := Hid.mk hIA
                  obtain ⟨nn, hnn⟩ : ∃ nn, (fs ++ [(tx, T)]).length = nn := ⟨_, rfl⟩
                  rw [hnn] at g3 g4 HIA
                  clear hOA hIA hnn
                  go_wp2_with fail
                  (try simp only [Exit.inBlock, Exit.then])
                  have HX := Hid.mk HP12.out.res
                  have HB := Hid.mk HP12.out.bel
                  generalize hz7 : (((((((W12.setCell ⟨w.heap.size, 0, none⟩ (.int .i64 6)).setCell ⟨w.heap.size, 1, none⟩ (.string ⟨#[]⟩)).setCell ⟨w.heap.size, 2, none⟩ (.string ⟨#[]⟩)).setCell ⟨w.heap.size, 3, none⟩ (.slice ioA nn icA)).setCell ⟨w.heap.size, 4, none⟩ (.slice koA nn kcA)).setCell ⟨w.heap.size, 5, none⟩ (.int .i64 (z : Int))).setCell ⟨w.heap.size, 6, none⟩ (.int .i64 0)) = wz
                  obtain ⟨e7, k7, s7⟩ := rbox_set7 W12 _ _ _ _ _ _ _ _ _ _ _ _ _ _ _ _ HX.out wz hz7.symm
                  obtain ⟨d0, d1, d2, d3, d4, d5, d6, _⟩ := box7_cells e7
                  have hbz : Below w.heap.size w wz := by rw [← hz7]; exact ((((((HB.out.setCell (p := ⟨w.heap.size, 0, none⟩) (by show w.heap.size ≤ w.heap.size; omega) _).setCell (p := ⟨w.heap.size, 1, none⟩) (by show w.heap.size ≤ w.heap.size; omega) _).setCell (p := ⟨w.heap.size, 2, none⟩) (by show w.heap.size ≤ w.heap.size; omega) _).setCell (p := ⟨w.heap.size, 3, none⟩) (by show w.heap.size ≤ w.heap.size; omega) _).setCell (p := ⟨w.heap.size, 4, none⟩) (by show w.heap.size ≤ w.heap.size; omega) _).setCell (p := ⟨w.heap.size, 5, none⟩) (by show w.heap.size ≤ w.heap.size; omega) _).setCell (p := ⟨w.heap.size, 6, none⟩) (by show w.heap.size ≤ w.heap.size; omega) _
                  refine bodyPost_ret (v := .agg #[.int .i64 6, .string ⟨#[]⟩, .string ⟨#[]⟩, .slice ioA nn icA, .slice koA nn kcA, .int .i64 (z : Int), .int .i64 0]) (by simp [results, Tryz.results49, go_sem, d0, d1, d2, d3, d4, d5, d6]) rfl ?_
                  exact ⟨hbz, by rw [← HRR.out]; exact ⟨_, _, _, _, _, rfl, InF.keepB (by omega) (fun b hb _ => k7 b (by have h1 := HP12.out.pl; have h2 := HP12.out.pl2; omega)) (by have h1 := HP12.out.pl; have h2 := HP12.out.pl2; omega) HIA.out⟩⟩
                · by_cases h6 : sg = 44 ∧ cd = 0
                  · obtain ⟨rfl, rfl⟩ := h6
                    obtain ⟨t3, hm3, hk3⟩ : ∃ t3, mustL s.data.toList q2 = .ok t3 z ∧ t3.kind = 6 := by
                      rcases hmm with hmm | ⟨t3, hm3, _, _, _, _, hsg, k1, k2⟩
                      · exact absurd (hmm.2 rfl) (by decide)
                      · exact ⟨t3, hm3, sg5_inj _ 6 k1 k2 (by omega) (by omega) hsg.symm⟩
                    obtain ⟨v5, v6⟩ := mustL_up (l := s.data.toList) (by omega) hm3
                    have HG3 : Hid (toO (RgO s.data.toList vl f (fs ++ [(tx, T)]) z) = R) := by
                      show _ = _
                      rw [← HG2.out, RgO_up hm3 hk3]
                    have HM3 := Hid.mk (And.intro v5 v6)
                    have hzz2 : z ≤ s.size := by omega
                    clear HG2 hm3 hk3 hbad he0 hee hmm v5 v6
                    unfold pc5
                    obtain ⟨y0, y1, y2, y3, y4, hpb⟩ := HP11.out.pb
                    obtain ⟨p0_12, p1_12, p2_12, p3_12, p4_12, pf0_12, pf1_12, pf2_12, pf3_12, pf4_12⟩ := vbox_cells hpb
                    obtain ⟨W12, hW12⟩ : ∃ W12, (((((w11.setCell ⟨w1.heap.size, 0, none⟩ (.int .u8 44)).setCell ⟨w1.heap.size, 1, none⟩ (.int .i64 (a : Int))).setCell ⟨w1.heap.size, 2, none⟩ (.int .i64 (z : Int))).setCell ⟨w1.heap.size, 3, none⟩ (.string ⟨tx2.toArray⟩)).setCell ⟨w1.heap.size, 4, none⟩ (.int .i64 0)) = W12 := ⟨_, rfl⟩
                    obtain ⟨hPP, hpb7⟩ := HP11.out.pset _ _ _ _ _ W12 hW12.symm
                    obtain ⟨r0_12, r1_12, r2_12, r3_12, r4_12, _, _, _, _, _⟩ := vbox_cells hpb7
                    have HP12 := Hid.mk hPP
                    have hl_12 : w1.heap.size < W12.heap.size := (Array.getElem?_eq_some_iff.1 hpb7).1
                    clear hpb hPP hpb7
                    go_wp2_with fail
                    go_roundw
                    case rel => exact ⟨f, fs ++ [(tx, T)], z, hzz2, rfl, (by show s.size < z + f; have := HF.out; have := HM3.out.1; have := HQ.out.1; omega), HP12, HG3, ⟨by rw [List.length_append]; show fs.length + 1 ≤ z; have := HFit.out.1; have := HM3.out.1; have := HQ.out.1; omega, fun g hg => by
                      rcases List.mem_append.1 hg with hg | hg
                      · exact HFit.out.2 g hg
                      · rcases List.mem_singleton.1 hg with rfl
                        exact htl⟩⟩
                    case measure =>
                      have := HM3.out.1
                      have := HQ.out.1
                      simp [intOf]
                      omega
                  · have HRR : Hid (Rd.bad er a = R) := by
                      show _ = _
                      rw [← HG2.out, rgD (z := z) (er := er) (a := a)]
                      · rfl
                      · rcases hmm with hmm | ⟨t3, hm3, hk3, he3, ha3, hcd3, hsg3, k1, k2⟩
                        · exact .inl hmm.1
                        · exact .inr ⟨t3, hm3, hk3, fun e => h6 ⟨by rw [hsg3, e]; rfl, hcd3⟩, he3, ha3⟩
                    have HE0 := Hid.mk he0
                    have HW2 : Hid (∀ u, Calls Tryz.prog 46 #[.agg #[.int .u8 (sg : Int), .int .i64 (a : Int), .int .i64 (z : Int), .string ⟨tx2.toArray⟩, .int .i64 (cd : Int)]] u fun e w' => Below u.heap.size u w' ∧ e = .returned (bad5 a er)) := fun u => by
                      have hw := HWr.out sg a z tx2 cd u
                      rw [hee] at hw
                      exact hw
                    have H6 := Hid.mk h6
                    clear hee hmm he0 HG2 h6
                    unfold pc5
                    rcases hbad with hc0 | ⟨rfl, hs1⟩
                    · have hcb : (((cd : Nat) : Int) == 0) = false := by rw [beq_eq_false_iff_ne]; omega
                      have hcn : ¬ ((cd : Nat) : Int) = 0 := by omega
                      clear hc0
                      obtain ⟨y0, y1, y2, y3, y4, hpb⟩ := HP11.out.pb
                      obtain ⟨p0_12, p1_12, p2_12, p3_12, p4_12, pf0_12, pf1_12, pf2_12, pf3_12, pf4_12⟩ := vbox_cells hpb
                      obtain ⟨W12, hW12⟩ : ∃ W12, (((((w11.setCell ⟨w1.heap.size, 0, none⟩ (.int .u8 (sg : Int))).setCell ⟨w1.heap.size, 1, none⟩ (.int .i64 (a : Int))).setCell ⟨w1.heap.size, 2, none⟩ (.int .i64 (z : Int))).setCell ⟨w1.heap.size, 3, none⟩ (.string ⟨tx2.toArray⟩)).setCell ⟨w1.heap.size, 4, none⟩ (.int .i64 (cd : Int))) = W12 := ⟨_, rfl⟩
                      obtain ⟨hPP, hpb7⟩ := HP11.out.pset _ _ _ _ _ W12 hW12.symm
                      obtain ⟨r0_12, r1_12, r2_12, r3_12, r4_12, _, _, _, _, _⟩ := vbox_cells hpb7
                      have HP12 := Hid.mk hPP
                      have hl_12 : w1.heap.size < W12.heap.size := (Array.getElem?_eq_some_iff.1 hpb7).1
                      clear hpb hPP hpb7
                      go_wp2_with fail
                      refine (HW2.out _).mono ?_
                      rintro e w8 ⟨hb8, rfl⟩
                      have HP8 := Hid.mk (HP12.out.low hb8)
                      obtain ⟨c0, c1, c2, c3, c4, c5, c6, f0, f1, f2, f3, f4, f5, f6⟩ := box7_cells HP8.out.res
                      have HX := Hid.mk HP8.out.res
                      have HB := Hid.mk HP8.out.bel
                      clear hb8
                      unfold bad5 ans5
                      go_wp2_with fail
                      (try simp only [Exit.inBlock, Exit.then])
                      generalize hz7 : (((((((w8.setCell ⟨w.heap.size, 0, none⟩ (.int .i64 0)).setCell ⟨w.heap.size, 1, none⟩ (.string ⟨#[]⟩)).setCell ⟨w.heap.size, 2, none⟩ (.string ⟨#[]⟩)).setCell ⟨w.heap.size, 3, none⟩ (.slice none 0 0)).setCell ⟨w.heap.size, 4, none⟩ (.slice none 0 0)).setCell ⟨w.heap.size, 5, none⟩ (.int .i64 (a : Int))).setCell ⟨w.heap.size, 6, none⟩ (.int .i64 (er : Int))) = wz
                      obtain ⟨e7, k7, s7⟩ := rbox_set7 w8 _ _ _ _ _ _ _ _ _ _ _ _ _ _ _ _ HX.out wz hz7.symm
                      obtain ⟨d0, d1, d2, d3, d4, d5, d6, _⟩ := box7_cells e7
                      have hbz : Below w.heap.size w wz := by rw [← hz7]; exact ((((((HB.out.setCell (p := ⟨w.heap.size, 0, none⟩) (by show w.heap.size ≤ w.heap.size; omega) _).setCell (p := ⟨w.heap.size, 1, none⟩) (by show w.heap.size ≤ w.heap.size; omega) _).setCell (p := ⟨w.heap.size, 2, none⟩) (by show w.heap.size ≤ w.heap.size; omega) _).setCell (p := ⟨w.heap.size, 3, none⟩) (by show w.heap.size ≤ w.heap.size; omega) _).setCell (p := ⟨w.heap.size, 4, none⟩) (by show w.heap.size ≤ w.heap.size; omega) _).setCell (p := ⟨w.heap.size, 5, none⟩) (by show w.heap.size ≤ w.heap.size; omega) _).setCell (p := ⟨w.heap.size, 6, none⟩) (by show w.heap.size ≤ w.heap.size; omega) _
                      refine bodyPost_ret (v := .agg #[.int .i64 0, .string ⟨#[]⟩, .string ⟨#[]⟩, .slice none 0 0, .slice none 0 0, .int .i64 (a : Int), .int .i64 (er : Int)]) (by simp [results, Tryz.results49, go_sem, d0, d1, d2, d3, d4, d5, d6]) rfl ?_
                      exact ⟨hbz, by rw [← HRR.out]; exact ⟨HE0.out, rfl⟩⟩
                    · have hs2 : ¬ sg = 125 := hs1
                      have hs3 : ¬ sg = 44 := fun e => H6.out ⟨e, rfl⟩
                      have hsb : (((sg : Nat) : Int) == 125) = false := by rw [beq_eq_false_iff_ne]; omega
                      have hsn : ¬ ((sg : Nat) : Int) = 125 := by omega
                      have hsb2 : (((sg : Nat) : Int) == 44) = false := by rw [beq_eq_false_iff_ne]; omega
                      have hsn2 : ¬ ((sg : Nat) : Int) = 44 := by omega
                      clear hs1 hs2 hs3
                      obtain ⟨y0, y1, y2, y3, y4, hpb⟩ := HP11.out.pb
                      obtain ⟨p0_12, p1_12, p2_12, p3_12, p4_12, pf0_12, pf1_12, pf2_12, pf3_12, pf4_12⟩ := vbox_cells hpb
                      obtain ⟨W12, hW12⟩ : ∃ W12, (((((w11.setCell ⟨w1.heap.size, 0, none⟩ (.int .u8 (sg : Int))).setCell ⟨w1.heap.size, 1, none⟩ (.int .i64 (a : Int))).setCell ⟨w1.heap.size, 2, none⟩ (.int .i64 (z : Int))).setCell ⟨w1.heap.size, 3, none⟩ (.string ⟨tx2.toArray⟩)).setCell ⟨w1.heap.size, 4, none⟩ (.int .i64 0)) = W12 := ⟨_, rfl⟩
                      obtain ⟨hPP, hpb7⟩ := HP11.out.pset _ _ _ _ _ W12 hW12.symm
                      obtain ⟨r0_12, r1_12, r2_12, r3_12, r4_12, _, _, _, _, _⟩ := vbox_cells hpb7
                      have HP12 := Hid.mk hPP
                      have hl_12 : w1.heap.size < W12.heap.size := (Array.getElem?_eq_some_iff.1 hpb7).1
                      clear hpb hPP hpb7
                      go_wp2_with fail
                      refine (HW2.out _).mono ?_
                      rintro e w8 ⟨hb8, rfl⟩
                      have HP8 := Hid.mk (HP12.out.low hb8)
                      obtain ⟨c0, c1, c2, c3, c4, c5, c6, f0, f1, f2, f3, f4, f5, f6⟩ := box7_cells HP8.out.res
                      have HX := Hid.mk HP8.out.res
                      have HB := Hid.mk HP8.out.bel
                      clear hb8
                      unfold bad5 ans5
                      go_wp2_with fail
                      (try simp only [Exit.inBlock, Exit.then])
                      generalize hz7 : (((((((w8.setCell ⟨w.heap.size, 0, none⟩ (.int .i64 0)).setCell ⟨w.heap.size, 1, none⟩ (.string ⟨#[]⟩)).setCell ⟨w.heap.size, 2, none⟩ (.string ⟨#[]⟩)).setCell ⟨w.heap.size, 3, none⟩ (.slice none 0 0)).setCell ⟨w.heap.size, 4, none⟩ (.slice none 0 0)).setCell ⟨w.heap.size, 5, none⟩ (.int .i64 (a : Int))).setCell ⟨w.heap.size, 6, none⟩ (.int .i64 (er : Int))) = wz
                      obtain ⟨e7, k7, s7⟩ := rbox_set7 w8 _ _ _ _ _ _ _ _ _ _ _ _ _ _ _ _ HX.out wz hz7.symm
                      obtain ⟨d0, d1, d2, d3, d4, d5, d6, _⟩ := box7_cells e7
                      have hbz : Below w.heap.size w wz := by rw [← hz7]; exact ((((((HB.out.setCell (p := ⟨w.heap.size, 0, none⟩) (by show w.heap.size ≤ w.heap.size; omega) _).setCell (p := ⟨w.heap.size, 1, none⟩) (by show w.heap.size ≤ w.heap.size; omega) _).setCell (p := ⟨w.heap.size, 2, none⟩) (by show w.heap.size ≤ w.heap.size; omega) _).setCell (p := ⟨w.heap.size, 3, none⟩) (by show w.heap.size ≤ w.heap.size; omega) _).setCell (p := ⟨w.heap.size, 4, none⟩) (by show w.heap.size ≤ w.heap.size; omega) _).setCell (p := ⟨w.heap.size, 5, none⟩) (by show w.heap.size ≤ w.heap.size; omega) _).setCell (p := ⟨w.heap.size, 6, none⟩) (by show w.heap.size ≤ w.heap.size; omega) _
                      refine bodyPost_ret (v := .agg #[.int .i64 0, .string ⟨#[]⟩, .string ⟨#[]⟩, .slice none 0 0, .slice none 0 0, .int .i64 (a : Int), .int .i64 (er : Int)]) (by simp [results, Tryz.results49, go_sem, d0, d1, d2, d3, d4, d5, d6]) rfl ?_
                      exact ⟨hbz, by rw [← HRR.out]; exact ⟨HE0.out, rfl⟩⟩
            · obtain ⟨m1, m2, m3, m4⟩ := HM.out
              have HRR : Hid (Rd.bad er a' = R) := by
                show _ = _
                rw [← HG.out, rgB m1 m2 (by rw [m4]; exact HAny.out) (er := er) (a := a') (z2 := z') (by rcases hmm with h | ⟨t, h1, h2, h3, h4, _⟩; exact .inl h.1; exact .inr ⟨t, h1, h2, h3, h4⟩)]
                rfl
              have HE0 := Hid.mk he0
              have HW2 : Hid (∀ u, Calls Tryz.prog 46 #[.agg #[.int .u8 (sg : Int), .int .i64 (a' : Int), .int .i64 (z' : Int), .string ⟨tx'.toArray⟩, .int .i64 (cd : Int)]] u fun e w' => Below u.heap.size u w' ∧ e = .returned (bad5 a' er)) := fun u => by
                have hw := HWr.out sg a' z' tx' cd u
                rw [hee] at hw
                exact hw
              clear m1 m2 m3 m4 HM hee hmm he0 HG
              unfold pc5
              rcases hbad with hc0 | ⟨rfl, hs1⟩
              · have hcb : (((cd : Nat) : Int) == 0) = false := by rw [beq_eq_false_iff_ne]; omega
                have hcn : ¬ ((cd : Nat) : Int) = 0 := by omega
                clear hc0
                obtain ⟨y0, y1, y2, y3, y4, hpb⟩ := HP5.out.pb
                obtain ⟨p0_6, p1_6, p2_6, p3_6, p4_6, pf0_6, pf1_6, pf2_6, pf3_6, pf4_6⟩ := vbox_cells hpb
                obtain ⟨W6, hW6⟩ : ∃ W6, (((((w5.setCell ⟨w1.heap.size, 0, none⟩ (.int .u8 (sg : Int))).setCell ⟨w1.heap.size, 1, none⟩ (.int .i64 (a' : Int))).setCell ⟨w1.heap.size, 2, none⟩ (.int .i64 (z' : Int))).setCell ⟨w1.heap.size, 3, none⟩ (.string ⟨tx'.toArray⟩)).setCell ⟨w1.heap.size, 4, none⟩ (.int .i64 (cd : Int))) = W6 := ⟨_, rfl⟩
                obtain ⟨hPP, hpb7⟩ := HP5.out.pset _ _ _ _ _ W6 hW6.symm
                obtain ⟨r0_6, r1_6, r2_6, r3_6, r4_6, _, _, _, _, _⟩ := vbox_cells hpb7
                have HP6 := Hid.mk hPP
                have hl_6 : w1.heap.size < W6.heap.size := (Array.getElem?_eq_some_iff.1 hpb7).1
                clear hpb hPP hpb7
                go_wp2_with fail
                refine (HW2.out _).mono ?_
                rintro e w8 ⟨hb8, rfl⟩
                have HP8 := Hid.mk (HP6.out.low hb8)
                obtain ⟨c0, c1, c2, c3, c4, c5, c6, f0, f1, f2, f3, f4, f5, f6⟩ := box7_cells HP8.out.res
                have HX := Hid.mk HP8.out.res
                have HB := Hid.mk HP8.out.bel
                clear hb8
                unfold bad5 ans5
                go_wp2_with fail
                (try simp only [Exit.inBlock, Exit.then])
                generalize hz7 : (((((((w8.setCell ⟨w.heap.size, 0, none⟩ (.int .i64 0)).setCell ⟨w.heap.size, 1, none⟩ (.string ⟨#[]⟩)).setCell ⟨w.heap.size, 2, none⟩ (.string ⟨#[]⟩)).setCell ⟨w.heap.size, 3, none⟩ (.slice none 0 0)).setCell ⟨w.heap.size, 4, none⟩ (.slice none 0 0)).setCell ⟨w.heap.size, 5, none⟩ (.int .i64 (a' : Int))).setCell ⟨w.heap.size, 6, none⟩ (.int .i64 (er : Int))) = wz
                obtain ⟨e7, k7, s7⟩ := rbox_set7 w8 _ _ _ _ _ _ _ _ _ _ _ _ _ _ _ _ HX.out wz hz7.symm
                obtain ⟨d0, d1, d2, d3, d4, d5, d6, _⟩ := box7_cells e7
                have hbz : Below w.heap.size w wz := by rw [← hz7]; exact ((((((HB.out.setCell (p := ⟨w.heap.size, 0, none⟩) (by show w.heap.size ≤ w.heap.size; omega) _).setCell (p := ⟨w.heap.size, 1, none⟩) (by show w.heap.size ≤ w.heap.size; omega) _).setCell (p := ⟨w.heap.size, 2, none⟩) (by show w.heap.size ≤ w.heap.size; omega) _).setCell (p := ⟨w.heap.size, 3, none⟩) (by show w.heap.size ≤ w.heap.size; omega) _).setCell (p := ⟨w.heap.size, 4, none⟩) (by show w.heap.size ≤ w.heap.size; omega) _).setCell (p := ⟨w.heap.size, 5, none⟩) (by show w.heap.size ≤ w.heap.size; omega) _).setCell (p := ⟨w.heap.size, 6, none⟩) (by show w.heap.size ≤ w.heap.size; omega) _
                refine bodyPost_ret (v := .agg #[.int .i64 0, .string ⟨#[]⟩, .string ⟨#[]⟩, .slice none 0 0, .slice none 0 0, .int .i64 (a' : Int), .int .i64 (er : Int)]) (by simp [results, Tryz.results49, go_sem, d0, d1, d2, d3, d4, d5, d6]) rfl ?_
                exact ⟨hbz, by rw [← HRR.out]; exact ⟨HE0.out, rfl⟩⟩
              · have hs2 : ¬ sg = 58 := hs1
                have hsb : (((sg : Nat) : Int) == 58) = false := by rw [beq_eq_false_iff_ne]; omega
                have hsn : ¬ ((sg : Nat) : Int) = 58 := by omega
                clear hs1 hs2
                obtain ⟨y0, y1, y2, y3, y4, hpb⟩ := HP5.out.pb
                obtain ⟨p0_6, p1_6, p2_6, p3_6, p4_6, pf0_6, pf1_6, pf2_6, pf3_6, pf4_6⟩ := vbox_cells hpb
                obtain ⟨W6, hW6⟩ : ∃ W6, (((((w5.setCell ⟨w1.heap.size, 0, none⟩ (.int .u8 (sg : Int))).setCell ⟨w1.heap.size, 1, none⟩ (.int .i64 (a' : Int))).setCell ⟨w1.heap.size, 2, none⟩ (.int .i64 (z' : Int))).setCell ⟨w1.heap.size, 3, none⟩ (.string ⟨tx'.toArray⟩)).setCell ⟨w1.heap.size, 4, none⟩ (.int .i64 0)) = W6 := ⟨_, rfl⟩
                obtain ⟨hPP, hpb7⟩ := HP5.out.pset _ _ _ _ _ W6 hW6.symm
                obtain ⟨r0_6, r1_6, r2_6, r3_6, r4_6, _, _, _, _, _⟩ := vbox_cells hpb7
                have HP6 := Hid.mk hPP
                have hl_6 : w1.heap.size < W6.heap.size := (Array.getElem?_eq_some_iff.1 hpb7).1
                clear hpb hPP hpb7
                go_wp2_with fail
                refine (HW2.out _).mono ?_
                rintro e w8 ⟨hb8, rfl⟩
                have HP8 := Hid.mk (HP6.out.low hb8)
                obtain ⟨c0, c1, c2, c3, c4, c5, c6, f0, f1, f2, f3, f4, f5, f6⟩ := box7_cells HP8.out.res
                have HX := Hid.mk HP8.out.res
                have HB := Hid.mk HP8.out.bel
                clear hb8
                unfold bad5 ans5
                go_wp2_with fail
                (try simp only [Exit.inBlock, Exit.then])
                generalize hz7 : (((((((w8.setCell ⟨w.heap.size, 0, none⟩ (.int .i64 0)).setCell ⟨w.heap.size, 1, none⟩ (.string ⟨#[]⟩)).setCell ⟨w.heap.size, 2, none⟩ (.string ⟨#[]⟩)).setCell ⟨w.heap.size, 3, none⟩ (.slice none 0 0)).setCell ⟨w.heap.size, 4, none⟩ (.slice none 0 0)).setCell ⟨w.heap.size, 5, none⟩ (.int .i64 (a' : Int))).setCell ⟨w.heap.size, 6, none⟩ (.int .i64 (er : Int))) = wz
                obtain ⟨e7, k7, s7⟩ := rbox_set7 w8 _ _ _ _ _ _ _ _ _ _ _ _ _ _ _ _ HX.out wz hz7.symm
                obtain ⟨d0, d1, d2, d3, d4, d5, d6, _⟩ := box7_cells e7
                have hbz : Below w.heap.size w wz := by rw [← hz7]; exact ((((((HB.out.setCell (p := ⟨w.heap.size, 0, none⟩) (by show w.heap.size ≤ w.heap.size; omega) _).setCell (p := ⟨w.heap.size, 1, none⟩) (by show w.heap.size ≤ w.heap.size; omega) _).setCell (p := ⟨w.heap.size, 2, none⟩) (by show w.heap.size ≤ w.heap.size; omega) _).setCell (p := ⟨w.heap.size, 3, none⟩) (by show w.heap.size ≤ w.heap.size; omega) _).setCell (p := ⟨w.heap.size, 4, none⟩) (by show w.heap.size ≤ w.heap.size; omega) _).setCell (p := ⟨w.heap.size, 5, none⟩) (by show w.heap.size ≤ w.heap.size; omega) _).setCell (p := ⟨w.heap.size, 6, none⟩) (by show w.heap.size ≤ w.heap.size; omega) _
                refine bodyPost_ret (v := .agg #[.int .i64 0, .string ⟨#[]⟩, .string ⟨#[]⟩, .slice none 0 0, .slice none 0 0, .int .i64 (a' : Int), .int .i64 (er : Int)]) (by simp [results, Tryz.results49, go_sem, d0, d1, d2, d3, d4, d5, d6]) rfl ?_
                exact ⟨hbz, by rw [← HRR.out]; exact ⟨HE0.out, rfl⟩⟩
        · skip
          have HRR : Hid (Rd.bad er a = R) := by
            show _ = _
            rw [← HG.out, rgA (z := z) (er := er) (a := a) (by rcases hmm with h | ⟨t, h1, h2, h3, h4, _⟩; exact .inl h.1; exact .inr ⟨t, h1, h2, h3, h4⟩)]
            rfl
          have HE0 := Hid.mk he0
          have HW2 : Hid (∀ u, Calls Tryz.prog 46 #[.agg #[.int .u8 (sg : Int), .int .i64 (a : Int), .int .i64 (z : Int), .string ⟨tx.toArray⟩, .int .i64 (cd : Int)]] u fun e w' => Below u.heap.size u w' ∧ e = .returned (bad5 a er)) := fun u => by
            have hw := HWr.out sg a z tx cd u
            rw [hee] at hw
            exact hw
          clear hee hmm he0 HG
          unfold pc5
          rcases hbad with hc0 | ⟨rfl, hs1⟩
          · have hcb : (((cd : Nat) : Int) == 0) = false := by rw [beq_eq_false_iff_ne]; omega
            have hcn : ¬ ((cd : Nat) : Int) = 0 := by omega
            clear hc0
            obtain ⟨y0, y1, y2, y3, y4, hpb⟩ := HP2.out.pb
            obtain ⟨p0_3, p1_3, p2_3, p3_3, p4_3, pf0_3, pf1_3, pf2_3, pf3_3, pf4_3⟩ := vbox_cells hpb
            obtain ⟨W3, hW3⟩ : ∃ W3, (((((w2.setCell ⟨w1.heap.size, 0, none⟩ (.int .u8 (sg : Int))).setCell ⟨w1.heap.size, 1, none⟩ (.int .i64 (a : Int))).setCell ⟨w1.heap.size, 2, none⟩ (.int .i64 (z : Int))).setCell ⟨w1.heap.size, 3, none⟩ (.string ⟨tx.toArray⟩)).setCell ⟨w1.heap.size, 4, none⟩ (.int .i64 (cd : Int))) = W3 := ⟨_, rfl⟩
            obtain ⟨hPP, hpb7⟩ := HP2.out.pset _ _ _ _ _ W3 hW3.symm
            obtain ⟨r0_3, r1_3, r2_3, r3_3, r4_3, _, _, _, _, _⟩ := vbox_cells hpb7
            have HP3 := Hid.mk hPP
            have hl_3 : w1.heap.size < W3.heap.size := (Array.getElem?_eq_some_iff.1 hpb7).1
            clear hpb hPP hpb7
            go_wp2_with fail
            refine (HW2.out _).mono ?_
            rintro e w8 ⟨hb8, rfl⟩
            have HP8 := Hid.mk (HP3.out.low hb8)
            obtain ⟨c0, c1, c2, c3, c4, c5, c6, f0, f1, f2, f3, f4, f5, f6⟩ := box7_cells HP8.out.res
            have HX := Hid.mk HP8.out.res
            have HB := Hid.mk HP8.out.bel
            clear hb8
            unfold bad5 ans5
            go_wp2_with fail
            (try simp only [Exit.inBlock, Exit.then])
            generalize hz7 : (((((((w8.setCell ⟨w.heap.size, 0, none⟩ (.int .i64 0)).setCell ⟨w.heap.size, 1, none⟩ (.string ⟨#[]⟩)).setCell ⟨w.heap.size, 2, none⟩ (.string ⟨#[]⟩)).setCell ⟨w.heap.size, 3, none⟩ (.slice none 0 0)).setCell ⟨w.heap.size, 4, none⟩ (.slice none 0 0)).setCell ⟨w.heap.size, 5, none⟩ (.int .i64 (a : Int))).setCell ⟨w.heap.size, 6, none⟩ (.int .i64 (er : Int))) = wz
            obtain ⟨e7, k7, s7⟩ := rbox_set7 w8 _ _ _ _ _ _ _ _ _ _ _ _ _ _ _ _ HX.out wz hz7.symm
            obtain ⟨d0, d1, d2, d3, d4, d5, d6, _⟩ := box7_cells e7
            have hbz : Below w.heap.size w wz := by rw [← hz7]; exact ((((((HB.out.setCell (p := ⟨w.heap.size, 0, none⟩) (by show w.heap.size ≤ w.heap.size; omega) _).setCell (p := ⟨w.heap.size, 1, none⟩) (by show w.heap.size ≤ w.heap.size; omega) _).setCell (p := ⟨w.heap.size, 2, none⟩) (by show w.heap.size ≤ w.heap.size; omega) _).setCell (p := ⟨w.heap.size, 3, none⟩) (by show w.heap.size ≤ w.heap.size; omega) _).setCell (p := ⟨w.heap.size, 4, none⟩) (by show w.heap.size ≤ w.heap.size; omega) _).setCell (p := ⟨w.heap.size, 5, none⟩) (by show w.heap.size ≤ w.heap.size; omega) _).setCell (p := ⟨w.heap.size, 6, none⟩) (by show w.heap.size ≤ w.heap.size; omega) _
            refine bodyPost_ret (v := .agg #[.int .i64 0, .string ⟨#[]⟩, .string ⟨#[]⟩, .slice none 0 0, .slice none 0 0, .int .i64 (a : Int), .int .i64 (er : Int)]) (by simp [results, Tryz.results49, go_sem, d0, d1, d2, d3, d4, d5, d6]) rfl ?_
            exact ⟨hbz, by rw [← HRR.out]; exact ⟨HE0.out, rfl⟩⟩
          · have hs2 : ¬ sg = 34 := hs1
            have hsb : (((sg : Nat) : Int) == 34) = false := by rw [beq_eq_false_iff_ne]; omega
            have hsn : ¬ ((sg : Nat) : Int) = 34 := by omega
            clear hs1 hs2
            obtain ⟨y0, y1, y2, y3, y4, hpb⟩ := HP2.out.pb
            obtain ⟨p0_3, p1_3, p2_3, p3_3, p4_3, pf0_3, pf1_3, pf2_3, pf3_3, pf4_3⟩ := vbox_cells hpb
            obtain ⟨W3, hW3⟩ : ∃ W3, (((((w2.setCell ⟨w1.heap.size, 0, none⟩ (.int .u8 (sg : Int))).setCell ⟨w1.heap.size, 1, none⟩ (.int .i64 (a : Int))).setCell ⟨w1.heap.size, 2, none⟩ (.int .i64 (z : Int))).setCell ⟨w1.heap.size, 3, none⟩ (.string ⟨tx.toArray⟩)).setCell ⟨w1.heap.size, 4, none⟩ (.int .i64 0)) = W3 := ⟨_, rfl⟩
            obtain ⟨hPP, hpb7⟩ := HP2.out.pset _ _ _ _ _ W3 hW3.symm
            obtain ⟨r0_3, r1_3, r2_3, r3_3, r4_3, _, _, _, _, _⟩ := vbox_cells hpb7
            have HP3 := Hid.mk hPP
            have hl_3 : w1.heap.size < W3.heap.size := (Array.getElem?_eq_some_iff.1 hpb7).1
            clear hpb hPP hpb7
            go_wp2_with fail
            refine (HW2.out _).mono ?_
            rintro e w8 ⟨hb8, rfl⟩
            have HP8 := Hid.mk (HP3.out.low hb8)
            obtain ⟨c0, c1, c2, c3, c4, c5, c6, f0, f1, f2, f3, f4, f5, f6⟩ := box7_cells HP8.out.res
            have HX := Hid.mk HP8.out.res
            have HB := Hid.mk HP8.out.bel
            clear hb8
            unfold bad5 ans5
            go_wp2_with fail
            (try simp only [Exit.inBlock, Exit.then])
            generalize hz7 : (((((((w8.setCell ⟨w.heap.size, 0, none⟩ (.int .i64 0)).setCell ⟨w.heap.size, 1, none⟩ (.string ⟨#[]⟩)).setCell ⟨w.heap.size, 2, none⟩ (.string ⟨#[]⟩)).setCell ⟨w.heap.size, 3, none⟩ (.slice none 0 0)).setCell ⟨w.heap.size, 4, none⟩ (.slice none 0 0)).setCell ⟨w.heap.size, 5, none⟩ (.int .i64 (a : Int))).setCell ⟨w.heap.size, 6, none⟩ (.int .i64 (er : Int))) = wz
            obtain ⟨e7, k7, s7⟩ := rbox_set7 w8 _ _ _ _ _ _ _ _ _ _ _ _ _ _ _ _ HX.out wz hz7.symm
            obtain ⟨d0, d1, d2, d3, d4, d5, d6, _⟩ := box7_cells e7
            have hbz : Below w.heap.size w wz := by rw [← hz7]; exact ((((((HB.out.setCell (p := ⟨w.heap.size, 0, none⟩) (by show w.heap.size ≤ w.heap.size; omega) _).setCell (p := ⟨w.heap.size, 1, none⟩) (by show w.heap.size ≤ w.heap.size; omega) _).setCell (p := ⟨w.heap.size, 2, none⟩) (by show w.heap.size ≤ w.heap.size; omega) _).setCell (p := ⟨w.heap.size, 3, none⟩) (by show w.heap.size ≤ w.heap.size; omega) _).setCell (p := ⟨w.heap.size, 4, none⟩) (by show w.heap.size ≤ w.heap.size; omega) _).setCell (p := ⟨w.heap.size, 5, none⟩) (by show w.heap.size ≤ w.heap.size; omega) _).setCell (p := ⟨w.heap.size, 6, none⟩) (by show w.heap.size ≤ w.heap.size; omega) _
            refine bodyPost_ret (v := .agg #[.int .i64 0, .string ⟨#[]⟩, .string ⟨#[]⟩, .slice none 0 0, .slice none 0 0, .int .i64 (a : Int), .int .i64 (er : Int)]) (by simp [results, Tryz.results49, go_sem, d0, d1, d2, d3, d4, d5, d6]) rfl ?_
            exact ⟨hbz, by rw [← HRR.out]; exact ⟨HE0.out, rfl⟩⟩
end Go.Proofs.YtcbngdkekdhfeaaGreatDoor
