import Derived.Test.YtfgfgcecbodjeaaGreatDoorM39
import Derived.Test.YtfgfgcecbodjeaaGreatDoorM37
import Derived.Test.YtfgfgcecbodjeaaGreatDoorM31
import Derived.Test.YtfgfgcecbodjeaaGreatDoorM32
namespace Go.Proofs.YtfgfgcecbodjeaaGreatDoor
open Go.RowKit Go.Shelf
set_option linter.unusedVariables false
set_option linter.unusedSimpArgs false

theorem bytesLess_lt : ∀ a b : List UInt8, Op.bytesLess a b = decide (a < b)
  | [], [] => by simp [Op.bytesLess]
  | [], _ :: _ => by simp [Op.bytesLess]
  | _ :: _, [] => by simp [Op.bytesLess]
  | c :: r, d :: t => by
    have hbl : Op.bytesLess (c :: r) (d :: t) = (decide (c < d) || (c == d && Op.bytesLess r t)) := rfl
    rw [hbl, bytesLess_lt r t]
    by_cases h1 : c < d
    · simp [List.cons_lt_cons_iff, h1]
    · by_cases h2 : c = d
      · subst h2
        simp [List.cons_lt_cons_iff, h1]
      · simp [List.cons_lt_cons_iff, h1, h2]
theorem lessF_cons (f g : List UInt8 × VT) (r : List (List UInt8 × VT)) : lessF f (g :: r) = if g.1 < f.1 then lessF f r + 1 else 0 := by
  unfold lessF
  rw [List.takeWhile_cons]
  by_cases h : g.1 < f.1
  · rw [if_pos h, if_pos (decide_eq_true h)]; rfl
  · rw [if_neg h, if_neg (by rw [decide_eq_true_eq]; exact h)]; rfl
theorem lessF_le (f : List UInt8 × VT) : ∀ l, lessF f l ≤ l.length
  | [] => Nat.le_refl _
  | g :: r => by
    rw [lessF_cons]
    have := lessF_le f r
    split
    · show _ ≤ r.length + 1; omega
    · exact Nat.zero_le _
theorem lessF_lt (f : List UInt8 × VT) : ∀ l i g, i < lessF f l → l[i]? = some g → g.1 < f.1
  | [], i, g, h, e => by simp at e
  | x :: r, i, g, h, e => by
    rw [lessF_cons] at h
    split at h
    · next hx =>
      cases i with
      | zero => simp at e; subst e; exact hx
      | succ i => exact lessF_lt f r i g (by omega) (by simpa using e)
    · omega
theorem lessF_at (f : List UInt8 × VT) : ∀ l g, l[lessF f l]? = some g → ¬ g.1 < f.1
  | [], g, e => by simp at e
  | x :: r, g, e => by
    rw [lessF_cons] at e
    split at e
    · exact lessF_at f r g (by simpa using e)
    · next hx => simp at e; subst e; exact hx
theorem insF_lt {f : List UInt8 × VT} {l : List (List UInt8 × VT)} {i : Nat} (h : i < lessF f l) : (insF f l)[i]? = l[i]? := by
  have := lessF_le f l
  rw [insF_cut, List.getElem?_append_left (by rw [List.length_take]; omega), List.getElem?_take_of_lt h]
theorem insF_eq {f : List UInt8 × VT} {l : List (List UInt8 × VT)} : (insF f l)[lessF f l]? = some f := by
  have := lessF_le f l
  rw [insF_cut, List.getElem?_append_right (by rw [List.length_take]; omega), List.length_take]
  rw [show lessF f l - min (lessF f l) l.length = 0 from by omega]
  rfl
theorem insF_gt {f : List UInt8 × VT} {l : List (List UInt8 × VT)} {i : Nat} (h : lessF f l ≤ i) : (insF f l)[i + 1]? = l[i]? := by
  have := lessF_le f l
  rw [insF_cut, List.getElem?_append_right (by rw [List.length_take]; omega), List.length_take]
  rw [show i + 1 - min (lessF f l) l.length = (i - lessF f l) + 1 from by omega, List.getElem?_cons_succ, List.getElem?_drop]
  congr 1
  omega
/-- the cells by place: the new one stands at m -/
def cIns (m : Nat) (old : Nat → Fin 5 → Value) (x : Fin 5 → Value) (i : Nat) : Fin 5 → Value := if i < m then old i else if i = m then x else old (i - 1)
theorem cIns_lt {m : Nat} {old : Nat → Fin 5 → Value} {x : Fin 5 → Value} {i : Nat} (h : i < m) : cIns m old x i = old i := by unfold cIns; rw [if_pos h]
theorem cIns_eq {m : Nat} {old : Nat → Fin 5 → Value} {x : Fin 5 → Value} : cIns m old x m = x := by unfold cIns; rw [if_neg (by omega), if_pos rfl]
theorem cIns_gt {m : Nat} {old : Nat → Fin 5 → Value} {x : Fin 5 → Value} {i : Nat} (h : m ≤ i) : cIns m old x (i + 1) = old i := by unfold cIns; rw [if_neg (by omega), if_neg (by omega)]; rfl
def kyN (l : List (List UInt8 × VT)) (i : Nat) : List UInt8 := (l.map (·.1)).getD i []
theorem kyN_of {l : List (List UInt8 × VT)} {i : Nat} {g : List UInt8 × VT} (h : l[i]? = some g) : kyN l i = g.1 := by unfold kyN; simp [List.getD, h]
/-- an object's tree, of fields that stand in their order -/
def fldT (l : List (List UInt8 × VT)) : VT := .mk 6 .empty .empty (l.map (·.2)) (l.map fun f => bT f.1)
theorem objT_fld (fs : List (List UInt8 × VT)) : objT fs = fldT (objS fs) := rfl
theorem gr_done2 {lo H n : Nat} {l : List (List UInt8 × VT)} {w W0 W u : World} {ky : Nat → List UInt8} {c : Nat → Fin 5 → Value} {io ko : Option Addr} {ic kc : Nat} (hlo : lo ≤ w.heap.size) (hl : l.length = n) (hn : n ≤ 16777216) (hkl : ∀ f ∈ l, f.1.length ≤ 140737488355328)
    (hky : ∀ i g, l[i]? = some g → ky i = g.1) (hc : ∀ i g, l[i]? = some g → InF lo w (H + 1) g.2 (.agg #[c i 0, c i 1, c i 2, c i 3, c i 4]))
    (h : GrS w W0 ky c n n (.slice io n ic) (.slice ko n kc) W) (hz : W.heap.size ≤ u.heap.size) (hs : ∀ b, lo ≤ b → b < W.heap.size → b ≠ w.heap.size → u.heap[b]? = W.heap[b]?) :
    InF lo u (H + 1 + 1) (fldT l) (.agg #[.int .i64 6, .string ⟨#[]⟩, .string ⟨#[]⟩, .slice io n ic, .slice ko n kc]) := by
  have h1 := h.lo
  have h2 := h.le
  have hbz := h.below.size
  have ci : n ≤ ic := by
    rcases h.items.2 with ⟨e, e2⟩ | ⟨g, c2, cur, e, e1, e2, e3, e4, e5, e6⟩
    · omega
    · simp only [Value.slice.injEq] at e; omega
  have ck : n ≤ kc := by
    rcases h.keys.2 with ⟨e, e2⟩ | ⟨g, c2, cur, e, e1, e2, e3, e4, e5, e6⟩
    · omega
    · simp only [Value.slice.injEq] at e; omega
  have eI : (fldT l).items.length = n := by show (l.map (·.2)).length = _; rw [List.length_map, hl]
  have eK : (fldT l).keys.length = n := by show (l.map fun f => bT f.1).length = _; rw [List.length_map, hl]
  refine ⟨io, ic, ko, kc, ?_, by show ByteArray.empty.size ≤ _; decide, by show ByteArray.empty.size ≤ _; decide, by omega, by omega, by omega, by omega, ?_, ?_, ?_⟩
  · rw [eI, eK]; rfl
  · intro x hx
    obtain ⟨f, hf, rfl⟩ := List.mem_map.1 hx
    have := hkl f hf
    show f.1.toArray.size ≤ _
    simpa using this
  · intro h0
    rcases h.keys.2 with ⟨e, e2⟩ | ⟨g, c2, cur, e, e1, e2, _⟩
    · omega
    · simp only [Value.slice.injEq] at e
      obtain ⟨rfl, _, rfl⟩ := e
      have hgl := (Array.getElem?_eq_some_iff.1 e2).1
      refine ⟨g, 0, rfl, by omega, by omega, fun i hi => ?_⟩
      have hi' : i < n := by omega
      have h5 : l[i]? = some (l[i]'(by omega)) := List.getElem?_eq_getElem (by omega)
      rw [Nat.zero_add, World.cell?_of_block (a := ⟨g, i, none⟩) (hs g (by omega) hgl (by omega)), own_cellAt h.keys (by omega)]
      unfold kyR
      rw [List.getElem?_map, List.getElem?_range hi']
      show some (Value.string ⟨(ky i).toArray⟩) = some (.string ((l.map fun f => bT f.1).getD i .empty))
      rw [hky i _ h5]
      simp [List.getD, h5, bT]
  · intro h0
    rcases h.items.2 with ⟨e, e2⟩ | ⟨g, c2, cur, e, e1, e2, _⟩
    · omega
    · simp only [Value.slice.injEq] at e
      obtain ⟨rfl, _, rfl⟩ := e
      have hgl := (Array.getElem?_eq_some_iff.1 e2).1
      refine ⟨g, 0, rfl, by omega, by omega, fun i hi => ?_⟩
      have hi' : i < n := by omega
      have h5 : l[i]? = some (l[i]'(by omega)) := List.getElem?_eq_getElem (by omega)
      have cc : ∀ j : Fin 5, u.cell? ⟨g, i * 5 + j.1, none⟩ = some (c i j) := fun j => by
        rw [World.cell?_of_block (a := ⟨g, i * 5 + j.1, none⟩) (hs g (by omega) hgl (by omega)), own_cellAt h.items (by have := j.2; omega)]
        exact flat_get _ _ i j hi'
      have hT := hc i _ h5
      refine ⟨_, _, _, _, _, ⟨by rw [Nat.zero_add]; exact cc 0, by rw [Nat.zero_add]; exact cc 1, by rw [Nat.zero_add]; exact cc 2, by rw [Nat.zero_add]; exact cc 3, by rw [Nat.zero_add]; exact cc 4⟩, ?_⟩
      have ei : (fldT l).items[i] = (l[i]'(by omega)).2 := by
        have : (fldT l).items[i]? = some (l[i]'(by omega)).2 := by
          show (l.map (·.2))[i]? = _
          rw [List.getElem?_map, h5]; rfl
        exact (List.getElem?_eq_some_iff.1 this).2
      rw [ei]
      exact InF.keepB (by omega) (fun b hb hl => (hs b hb (by omega) (by omega)).trans (h.below.block b hl)) (Nat.le_refl _) hT
/-- an object in memory, opened -/
structure ObO (lo H : Nat) (l : List (List UInt8 × VT)) (w : World) (kb koff ib ioff : Nat) (c : Nat → Fin 5 → Value) : Prop where
  hkb : 0 < l.length → lo ≤ kb ∧ kb < w.heap.size
  hib : 0 < l.length → lo ≤ ib ∧ ib < w.heap.size
  key : ∀ i g, l[i]? = some g → w.cell? ⟨kb, koff + i, none⟩ = some (.string ⟨g.1.toArray⟩)
  item : ∀ i g, l[i]? = some g → (w.cell? ⟨ib, ioff + i * 5, none⟩ = some (c i 0) ∧ w.cell? ⟨ib, ioff + i * 5 + 1, none⟩ = some (c i 1) ∧ w.cell? ⟨ib, ioff + i * 5 + 2, none⟩ = some (c i 2) ∧ w.cell? ⟨ib, ioff + i * 5 + 3, none⟩ = some (c i 3) ∧ w.cell? ⟨ib, ioff + i * 5 + 4, none⟩ = some (c i 4)) ∧ InF lo w (H + 1) g.2 (.agg #[c i 0, c i 1, c i 2, c i 3, c i 4])
theorem obO_of {lo H n : Nat} {l : List (List UInt8 × VT)} {w : World} {v : Value} (hl : l.length = n) (hv : InF lo w (H + 1 + 1) (fldT l) v) : ∃ io ic ko kc kb koff ib ioff c, v = .agg #[.int .i64 6, .string ⟨#[]⟩, .string ⟨#[]⟩, .slice io n ic, .slice ko n kc] ∧ n ≤ ic ∧ n ≤ kc ∧ (0 < n → ko = some ⟨kb, koff, none⟩ ∧ io = some ⟨ib, ioff, none⟩) ∧ ObO lo H l w kb koff ib ioff c := by
  obtain ⟨io, ic, ko, kc, e, a1, a2, a3, a4, a5, a6, a7, hk, hi⟩ := hv
  have eI : (fldT l).items.length = n := by show (l.map (·.2)).length = _; rw [List.length_map, hl]
  have eK : (fldT l).keys.length = n := by show (l.map fun f => bT f.1).length = _; rw [List.length_map, hl]
  rw [eI, eK] at e
  rw [eI] at a5
  rw [eK] at a6
  by_cases h0 : 0 < n
  · obtain ⟨kb, koff, e1, b1, b2, b3⟩ := hk (by omega)
    obtain ⟨ib, ioff, e3, d1, d2, d3⟩ := hi (by omega)
    refine ⟨io, ic, ko, kc, kb, koff, ib, ioff, fun i j => (w.cell? ⟨ib, ioff + i * 5 + j.1, none⟩).getD undef, e, a5, a6, fun _ => ⟨e1, e3⟩, fun _ => ⟨b1, b2⟩, fun _ => ⟨d1, d2⟩, fun i g hg => ?_, fun i g hg => ?_⟩
    · have hil := (List.getElem?_eq_some_iff.1 hg).1
      rw [b3 i (by omega)]
      show some (Value.string ((l.map fun f => bT f.1).getD i .empty)) = _
      simp [List.getD, hg, bT]
    · have hil := (List.getElem?_eq_some_iff.1 hg).1
      obtain ⟨v0, v1, v2, v3, v4, ⟨c0, c1, c2, c3, c4⟩, ht⟩ := d3 i (by omega)
      have ei : (fldT l).items[i]'(by omega) = g.2 := by
        have : (fldT l).items[i]? = some g.2 := by
          show (l.map (·.2))[i]? = _
          rw [List.getElem?_map, hg]; rfl
        exact (List.getElem?_eq_some_iff.1 this).2
      rw [ei] at ht
      have f0 : (w.cell? ⟨ib, ioff + i * 5 + (0 : Fin 5).1, none⟩).getD undef = v0 := by show (w.cell? ⟨ib, ioff + i * 5 + 0, none⟩).getD undef = v0; rw [Nat.add_zero, c0]; rfl
      have f1 : (w.cell? ⟨ib, ioff + i * 5 + (1 : Fin 5).1, none⟩).getD undef = v1 := by show (w.cell? ⟨ib, ioff + i * 5 + 1, none⟩).getD undef = v1; rw [c1]; rfl
      have f2 : (w.cell? ⟨ib, ioff + i * 5 + (2 : Fin 5).1, none⟩).getD undef = v2 := by show (w.cell? ⟨ib, ioff + i * 5 + 2, none⟩).getD undef = v2; rw [c2]; rfl
      have f3 : (w.cell? ⟨ib, ioff + i * 5 + (3 : Fin 5).1, none⟩).getD undef = v3 := by show (w.cell? ⟨ib, ioff + i * 5 + 3, none⟩).getD undef = v3; rw [c3]; rfl
      have f4 : (w.cell? ⟨ib, ioff + i * 5 + (4 : Fin 5).1, none⟩).getD undef = v4 := by show (w.cell? ⟨ib, ioff + i * 5 + 4, none⟩).getD undef = v4; rw [c4]; rfl
      simp only [f0, f1, f2, f3, f4]
      exact ⟨⟨c0, c1, c2, c3, c4⟩, ht⟩
  · obtain rfl : n = 0 := by omega
    have hl0 : l = [] := List.eq_nil_of_length_eq_zero hl
    subst hl0
    exact ⟨io, ic, ko, kc, 0, 0, 0, 0, fun _ _ => undef, e, a5, a6, fun h => absurd h (by omega), fun h => absurd h (by show ¬ 0 < 0; omega), fun h => absurd h (by show ¬ 0 < 0; omega), fun i g hg => by simp at hg, fun i g hg => by simp at hg⟩
end Go.Proofs.YtfgfgcecbodjeaaGreatDoor
namespace Go.Proofs.YtfgfgcecbodjeaaGreatDoor
open Go.RowKit Go.Shelf
set_option linter.unusedVariables false
set_option linter.unusedSimpArgs false
attribute [local go_sem] Oper.semAt_some

theorem w_5Next (s : ByteArray) (p : Nat) (w : World) (hp : p ≤ s.size) (hs : s.size ≤ 1048576) :
    Calls Tryz.prog 20 #[.string s, .int .i64 (p : Int)] w fun e w' => Below w.heap.size w w' ∧ Nx5 s.data.toList p e := by
  by_cases hlt : behL s.data.toList p cBl < s.data.toList.length
  · cases hnm : cMk.contains (s.data.toList.getD (behL s.data.toList p cBl) 0) with
    | true =>
      have h := (mk_pos _).2 hnm
      rw [mk_tab] at h
      by_cases h0 : (s.data.toList.getD (behL s.data.toList p cBl) 0).toNat = 123
      · exact w_5Next_m0 s p w hp hs hlt h0
      by_cases h1 : (s.data.toList.getD (behL s.data.toList p cBl) 0).toNat = 125
      · exact w_5Next_m1 s p w hp hs hlt h1
      by_cases h2 : (s.data.toList.getD (behL s.data.toList p cBl) 0).toNat = 91
      · exact w_5Next_m2 s p w hp hs hlt h2
      by_cases h3 : (s.data.toList.getD (behL s.data.toList p cBl) 0).toNat = 93
      · exact w_5Next_m3 s p w hp hs hlt h3
      by_cases h4 : (s.data.toList.getD (behL s.data.toList p cBl) 0).toNat = 58
      · exact w_5Next_m4 s p w hp hs hlt h4
      by_cases h5 : (s.data.toList.getD (behL s.data.toList p cBl) 0).toNat = 44
      · exact w_5Next_m5 s p w hp hs hlt h5
      rw [if_neg h0, if_neg h1, if_neg h2, if_neg h3, if_neg h4, if_neg h5] at h
      omega
    | false =>
      by_cases hq : (s.data.toList.getD (behL s.data.toList p cBl) 0) = 34
      · by_cases hc : (unqL s.data.toList (behL s.data.toList p cBl + 1) []).2.2 = 0
        · exact w_5Next_lit0 s p w hp hs hlt hnm hq hc
        · exact w_5Next_lit1 s p w hp hs hlt hnm hq hc
      · cases hl : cLe.contains (s.data.toList.getD (behL s.data.toList p cBl) 0) with
        | true => exact w_5Next_word s p w hp hs hlt hnm hq hl
        | false =>
          cases hd : cDm.contains (s.data.toList.getD (behL s.data.toList p cBl) 0) with
          | true =>
            cases hg : cDg.contains (s.data.toList.getD (behL s.data.toList p cBl) 0) with
            | true => exact w_5Next_num1 s p w hp hs hlt hnm hq hl hd hg
            | false => exact w_5Next_num0 s p w hp hs hlt hnm hq hl hd hg
          | false => exact w_5Next_byte s p w hp hs hlt hnm hq hl hd
  · exact w_5Next_end s p w hp hs hlt
theorem nextT_kind {l : List UInt8} {q : Nat} (h : (nextT l q).err = 0) : 1 ≤ (nextT l q).kind ∧ (nextT l q).kind ≤ 11 := by
  unfold nextT at h ⊢
  split
  · next hc =>
    show 1 ≤ (1 + Lib.indexByte cMk (l.getD q 0)).toNat ∧ _
    have e : (1 + Lib.indexByte cMk (l.getD q 0)).toNat = mkN (l.getD q 0) := by unfold mkN; rw [if_pos hc]
    have h1 := (mk_pos _).2 hc
    have h2 := mk_tab (l.getD q 0)
    have h3 : mkN (l.getD q 0) ≤ 6 := by
      rw [h2]
      repeat' split
      all_goals omega
    show _ ∧ (1 + Lib.indexByte cMk (l.getD q 0)).toNat ≤ 11
    rw [e]
    omega
  · next hc =>
    rw [if_neg hc] at h
    split
    · next h34 =>
      rw [if_pos h34] at h
      unfold litT at h ⊢
      split
      · exact ⟨(by show 1 ≤ 11; omega), (by show 11 ≤ 11; omega)⟩
      · next h0 => rw [if_neg h0] at h; exact absurd h h0
    · next h34 =>
      rw [if_neg h34] at h
      split
      · next hl =>
        rw [if_pos hl] at h
        unfold wordT at h ⊢
        split
        · exact ⟨(by show 1 ≤ 7; omega), (by show 7 ≤ 11; omega)⟩
        · next h0 =>
          rw [if_neg h0] at h
          split
          · exact ⟨(by show 1 ≤ 8; omega), (by show 8 ≤ 11; omega)⟩
          · next h1 =>
            rw [if_neg h1] at h
            split
            · exact ⟨(by show 1 ≤ 9; omega), (by show 9 ≤ 11; omega)⟩
            · next h2 => rw [if_neg h2] at h; cases h
      · next hl =>
        rw [if_neg hl] at h
        split
        · next hd =>
          rw [if_pos hd] at h
          unfold numeralT at h ⊢
          split
          · exact ⟨(by show 1 ≤ 10; omega), (by show 10 ≤ 11; omega)⟩
          · next h0 => rw [if_neg h0] at h; cases h
        · next hd => rw [if_neg hd] at h; cases h
/-- what the reference's Next says of what must come -/
theorem nx5_must {l : List UInt8} {p : Nat} {e : Ending} (h : Nx5 l p e) : (∃ t p1, mustL l p = .ok t p1 ∧ 1 ≤ t.kind ∧ t.kind ≤ 11 ∧ e = .returned (pc5 (sg5 t.kind) t.at_ p1 t.text 0)) ∨
    (∃ sg q z cd er, mustL l p = .bad er q ∧ er ≠ 0 ∧ e = .returned (pc5 sg q z [] cd) ∧ ((cd ≠ 0 ∧ er = cd) ∨ (cd = 0 ∧ sg = 36 ∧ er = 50))) := by
  unfold mustL
  rcases h with ⟨h1, rfl⟩ | ⟨h1, ht⟩
  · rw [if_neg h1]
    exact .inr ⟨36, l.length, l.length, 0, 50, rfl, by omega, rfl, .inr ⟨rfl, rfl, rfl⟩⟩
  · rw [if_pos h1]
    rcases ht with ⟨h2, rfl⟩ | ⟨h2, sg, rfl⟩
    · rw [if_pos h2]
      have hk := nextT_kind h2
      exact .inl ⟨_, _, rfl, hk.1, hk.2, rfl⟩
    · rw [if_neg h2]
      exact .inr ⟨sg, _, _, _, _, rfl, h2, rfl, .inl ⟨h2, rfl⟩⟩
end Go.Proofs.YtfgfgcecbodjeaaGreatDoor
namespace Go.Proofs.YtfgfgcecbodjeaaGreatDoor
open Go.RowKit Go.Shelf
set_option linter.unusedVariables false
set_option linter.unusedSimpArgs false
attribute [local go_sem] Oper.semAt_some

/-- a value read from a place on -/
def rdL (l : List UInt8) (vl : Tok → Nat → Rd VT) (p : Nat) : Rd VT := match mustL l p with
  | .bad e q => .bad e q
  | .ok t p1 => vl t p1
/-- the reference's Read does so -/
def RdC (s : ByteArray) (h d : Nat) (vl : Tok → Nat → Rd VT) : Prop := ∀ (p : Nat) (u : World), p ≤ s.size → Calls Tryz.prog 21 #[.string s, .int .i64 (p : Int), .int .i64 (d : Int)] u fun e w' => An5 h u (rdL s.data.toList vl p) e w'
theorem box_pc {w w1 : World} {o : Obj} (hb : Below (w.alloc o).heap.size (w.alloc o) w1) : w.heap.size < w1.heap.size ∧ Below w.heap.size w w1 ∧ w1.heap[w.heap.size]? = (w.alloc o).heap[w.heap.size]? := by
  have h := hb.size
  rw [World.size_alloc] at h
  exact ⟨by omega, (below1 w o).trans (hb.mono (by simp)), hb.block _ (by simp)⟩

end Go.Proofs.YtfgfgcecbodjeaaGreatDoor
namespace Go.Proofs.YtfgfgcecbodjeaaGreatDoor
open Go.RowKit Go.Shelf
set_option linter.unusedVariables false
set_option linter.unusedSimpArgs false
attribute [local go_sem] Oper.semAt_some

set_option maxRecDepth 100000 in
set_option maxHeartbeats 3200000 in
theorem w_5Read_k7 (s : ByteArray) (hs : s.size ≤ 1048576) (h d p : Nat) (hp : p ≤ s.size) (a z : Nat) (tx : List UInt8) (htx : tx.length ≤ 140737488355328) (w : World) (HN : Calls Tryz.prog 20 #[.string s, .int .i64 (p : Int)] (w.alloc (.cells #[.int .i64 0, .string ⟨#[]⟩, .string ⟨#[]⟩, .slice none 0 0, .slice none 0 0, .int .i64 0, .int .i64 0] 53)) fun e w' => Below (w.alloc (.cells #[.int .i64 0, .string ⟨#[]⟩, .string ⟨#[]⟩, .slice none 0 0, .slice none 0 0, .int .i64 0, .int .i64 0] 53)).heap.size (w.alloc (.cells #[.int .i64 0, .string ⟨#[]⟩, .string ⟨#[]⟩, .slice none 0 0, .slice none 0 0, .int .i64 0, .int .i64 0] 53)) w' ∧ e = .returned (pc5 110 a z tx 0)) :
    Calls Tryz.prog 21 #[.string s, .int .i64 (p : Int), .int .i64 (d : Int)] w fun e w' => An5 h w (.ok (.mk 0 .empty .empty [] []) z) e w' := by
  have HNN := Hid.mk HN
  have HTx := Hid.mk htx
  clear HN htx
  go_enter Tryz.func21, Tryz.ntmps21
  go_wp2_with fail
  refine HNN.out.mono ?_
  rintro e w1 ⟨hb1, rfl⟩
  obtain ⟨hsz, hbw, hbx⟩ := box_pc hb1
  rw [heap_alloc_new] at hbx
  obtain ⟨c0, c1, c2, c3, c4, c5, c6, f0, f1, f2, f3, f4, f5, f6⟩ := box7_cells hbx
  have HX := Hid.mk hbx
  have HB := Hid.mk hbw
  clear hb1 hbx hbw
  unfold pc5
  go_wp2_with fail
  (try simp only [Exit.inBlock, Exit.then])
  generalize hz7 : (((((((w1.setCell ⟨w.heap.size, 0, none⟩ (.int .i64 0)).setCell ⟨w.heap.size, 1, none⟩ (.string ⟨#[]⟩)).setCell ⟨w.heap.size, 2, none⟩ (.string ⟨#[]⟩)).setCell ⟨w.heap.size, 3, none⟩ (.slice none 0 0)).setCell ⟨w.heap.size, 4, none⟩ (.slice none 0 0)).setCell ⟨w.heap.size, 5, none⟩ (.int .i64 (z : Int))).setCell ⟨w.heap.size, 6, none⟩ (.int .i64 0)) = wz
  obtain ⟨e7, k7, s7⟩ := rbox_set7 w1 _ _ _ _ _ _ _ _ _ _ _ _ _ _ _ _ HX.out wz hz7.symm
  have e8 := (Below.heap_alloc wz (.cells #[.int .u8 110, .int .i64 (a : Int), .int .i64 (z : Int), .string ⟨tx.toArray⟩, .int .i64 0] 50) w.heap.size (by omega)).trans e7
  obtain ⟨d0, d1, d2, d3, d4, d5, d6, _⟩ := box7_cells e8
  have hbz : Below w.heap.size w wz := by rw [← hz7]; exact ((((((HB.out.setCell (p := ⟨w.heap.size, 0, none⟩) (Nat.le_refl _) _).setCell (p := ⟨w.heap.size, 1, none⟩) (Nat.le_refl _) _).setCell (p := ⟨w.heap.size, 2, none⟩) (Nat.le_refl _) _).setCell (p := ⟨w.heap.size, 3, none⟩) (Nat.le_refl _) _).setCell (p := ⟨w.heap.size, 4, none⟩) (Nat.le_refl _) _).setCell (p := ⟨w.heap.size, 5, none⟩) (Nat.le_refl _) _).setCell (p := ⟨w.heap.size, 6, none⟩) (Nat.le_refl _) _
  refine bodyPost_ret (v := .agg #[.int .i64 0, .string ⟨#[]⟩, .string ⟨#[]⟩, .slice none 0 0, .slice none 0 0, .int .i64 (z : Int), .int .i64 0]) (by simp [results, Tryz.results21, go_sem, d0, d1, d2, d3, d4, d5, d6]) rfl ?_
  exact ⟨hbz.alloc hbz.size _, _, _, _, _, _, rfl, inF_leaf _ _ _ 0 .empty .empty (by decide) (by decide)⟩

set_option maxRecDepth 100000 in
set_option maxHeartbeats 3200000 in
theorem w_5Read_k8 (s : ByteArray) (hs : s.size ≤ 1048576) (h d p : Nat) (hp : p ≤ s.size) (a z : Nat) (tx : List UInt8) (htx : tx.length ≤ 140737488355328) (w : World) (HN : Calls Tryz.prog 20 #[.string s, .int .i64 (p : Int)] (w.alloc (.cells #[.int .i64 0, .string ⟨#[]⟩, .string ⟨#[]⟩, .slice none 0 0, .slice none 0 0, .int .i64 0, .int .i64 0] 53)) fun e w' => Below (w.alloc (.cells #[.int .i64 0, .string ⟨#[]⟩, .string ⟨#[]⟩, .slice none 0 0, .slice none 0 0, .int .i64 0, .int .i64 0] 53)).heap.size (w.alloc (.cells #[.int .i64 0, .string ⟨#[]⟩, .string ⟨#[]⟩, .slice none 0 0, .slice none 0 0, .int .i64 0, .int .i64 0] 53)) w' ∧ e = .returned (pc5 102 a z tx 0)) :
    Calls Tryz.prog 21 #[.string s, .int .i64 (p : Int), .int .i64 (d : Int)] w fun e w' => An5 h w (.ok (.mk 1 .empty .empty [] []) z) e w' := by
  have HNN := Hid.mk HN
  have HTx := Hid.mk htx
  clear HN htx
  go_enter Tryz.func21, Tryz.ntmps21
  go_wp2_with fail
  refine HNN.out.mono ?_
  rintro e w1 ⟨hb1, rfl⟩
  obtain ⟨hsz, hbw, hbx⟩ := box_pc hb1
  rw [heap_alloc_new] at hbx
  obtain ⟨c0, c1, c2, c3, c4, c5, c6, f0, f1, f2, f3, f4, f5, f6⟩ := box7_cells hbx
  have HX := Hid.mk hbx
  have HB := Hid.mk hbw
  clear hb1 hbx hbw
  unfold pc5
  go_wp2_with fail
  (try simp only [Exit.inBlock, Exit.then])
  generalize hz7 : (((((((w1.setCell ⟨w.heap.size, 0, none⟩ (.int .i64 1)).setCell ⟨w.heap.size, 1, none⟩ (.string ⟨#[]⟩)).setCell ⟨w.heap.size, 2, none⟩ (.string ⟨#[]⟩)).setCell ⟨w.heap.size, 3, none⟩ (.slice none 0 0)).setCell ⟨w.heap.size, 4, none⟩ (.slice none 0 0)).setCell ⟨w.heap.size, 5, none⟩ (.int .i64 (z : Int))).setCell ⟨w.heap.size, 6, none⟩ (.int .i64 0)) = wz
  obtain ⟨e7, k7, s7⟩ := rbox_set7 w1 _ _ _ _ _ _ _ _ _ _ _ _ _ _ _ _ HX.out wz hz7.symm
  have e8 := (Below.heap_alloc wz (.cells #[.int .u8 102, .int .i64 (a : Int), .int .i64 (z : Int), .string ⟨tx.toArray⟩, .int .i64 0] 50) w.heap.size (by omega)).trans e7
  obtain ⟨d0, d1, d2, d3, d4, d5, d6, _⟩ := box7_cells e8
  have hbz : Below w.heap.size w wz := by rw [← hz7]; exact ((((((HB.out.setCell (p := ⟨w.heap.size, 0, none⟩) (Nat.le_refl _) _).setCell (p := ⟨w.heap.size, 1, none⟩) (Nat.le_refl _) _).setCell (p := ⟨w.heap.size, 2, none⟩) (Nat.le_refl _) _).setCell (p := ⟨w.heap.size, 3, none⟩) (Nat.le_refl _) _).setCell (p := ⟨w.heap.size, 4, none⟩) (Nat.le_refl _) _).setCell (p := ⟨w.heap.size, 5, none⟩) (Nat.le_refl _) _).setCell (p := ⟨w.heap.size, 6, none⟩) (Nat.le_refl _) _
  refine bodyPost_ret (v := .agg #[.int .i64 1, .string ⟨#[]⟩, .string ⟨#[]⟩, .slice none 0 0, .slice none 0 0, .int .i64 (z : Int), .int .i64 0]) (by simp [results, Tryz.results21, go_sem, d0, d1, d2, d3, d4, d5, d6]) rfl ?_
  exact ⟨hbz.alloc hbz.size _, _, _, _, _, _, rfl, inF_leaf _ _ _ 1 .empty .empty (by decide) (by decide)⟩

set_option maxRecDepth 100000 in
set_option maxHeartbeats 3200000 in
theorem w_5Read_k9 (s : ByteArray) (hs : s.size ≤ 1048576) (h d p : Nat) (hp : p ≤ s.size) (a z : Nat) (tx : List UInt8) (htx : tx.length ≤ 140737488355328) (w : World) (HN : Calls Tryz.prog 20 #[.string s, .int .i64 (p : Int)] (w.alloc (.cells #[.int .i64 0, .string ⟨#[]⟩, .string ⟨#[]⟩, .slice none 0 0, .slice none 0 0, .int .i64 0, .int .i64 0] 53)) fun e w' => Below (w.alloc (.cells #[.int .i64 0, .string ⟨#[]⟩, .string ⟨#[]⟩, .slice none 0 0, .slice none 0 0, .int .i64 0, .int .i64 0] 53)).heap.size (w.alloc (.cells #[.int .i64 0, .string ⟨#[]⟩, .string ⟨#[]⟩, .slice none 0 0, .slice none 0 0, .int .i64 0, .int .i64 0] 53)) w' ∧ e = .returned (pc5 116 a z tx 0)) :
    Calls Tryz.prog 21 #[.string s, .int .i64 (p : Int), .int .i64 (d : Int)] w fun e w' => An5 h w (.ok (.mk 2 .empty .empty [] []) z) e w' := by
  have HNN := Hid.mk HN
  have HTx := Hid.mk htx
  clear HN htx
  go_enter Tryz.func21, Tryz.ntmps21
  go_wp2_with fail
  refine HNN.out.mono ?_
  rintro e w1 ⟨hb1, rfl⟩
  obtain ⟨hsz, hbw, hbx⟩ := box_pc hb1
  rw [heap_alloc_new] at hbx
  obtain ⟨c0, c1, c2, c3, c4, c5, c6, f0, f1, f2, f3, f4, f5, f6⟩ := box7_cells hbx
  have HX := Hid.mk hbx
  have HB := Hid.mk hbw
  clear hb1 hbx hbw
  unfold pc5
  go_wp2_with fail
  (try simp only [Exit.inBlock, Exit.then])
  generalize hz7 : (((((((w1.setCell ⟨w.heap.size, 0, none⟩ (.int .i64 2)).setCell ⟨w.heap.size, 1, none⟩ (.string ⟨#[]⟩)).setCell ⟨w.heap.size, 2, none⟩ (.string ⟨#[]⟩)).setCell ⟨w.heap.size, 3, none⟩ (.slice none 0 0)).setCell ⟨w.heap.size, 4, none⟩ (.slice none 0 0)).setCell ⟨w.heap.size, 5, none⟩ (.int .i64 (z : Int))).setCell ⟨w.heap.size, 6, none⟩ (.int .i64 0)) = wz
  obtain ⟨e7, k7, s7⟩ := rbox_set7 w1 _ _ _ _ _ _ _ _ _ _ _ _ _ _ _ _ HX.out wz hz7.symm
  have e8 := (Below.heap_alloc wz (.cells #[.int .u8 116, .int .i64 (a : Int), .int .i64 (z : Int), .string ⟨tx.toArray⟩, .int .i64 0] 50) w.heap.size (by omega)).trans e7
  obtain ⟨d0, d1, d2, d3, d4, d5, d6, _⟩ := box7_cells e8
  have hbz : Below w.heap.size w wz := by rw [← hz7]; exact ((((((HB.out.setCell (p := ⟨w.heap.size, 0, none⟩) (Nat.le_refl _) _).setCell (p := ⟨w.heap.size, 1, none⟩) (Nat.le_refl _) _).setCell (p := ⟨w.heap.size, 2, none⟩) (Nat.le_refl _) _).setCell (p := ⟨w.heap.size, 3, none⟩) (Nat.le_refl _) _).setCell (p := ⟨w.heap.size, 4, none⟩) (Nat.le_refl _) _).setCell (p := ⟨w.heap.size, 5, none⟩) (Nat.le_refl _) _).setCell (p := ⟨w.heap.size, 6, none⟩) (Nat.le_refl _) _
  refine bodyPost_ret (v := .agg #[.int .i64 2, .string ⟨#[]⟩, .string ⟨#[]⟩, .slice none 0 0, .slice none 0 0, .int .i64 (z : Int), .int .i64 0]) (by simp [results, Tryz.results21, go_sem, d0, d1, d2, d3, d4, d5, d6]) rfl ?_
  exact ⟨hbz.alloc hbz.size _, _, _, _, _, _, rfl, inF_leaf _ _ _ 2 .empty .empty (by decide) (by decide)⟩

set_option maxRecDepth 100000 in
set_option maxHeartbeats 3200000 in
theorem w_5Read_k10 (s : ByteArray) (hs : s.size ≤ 1048576) (h d p : Nat) (hp : p ≤ s.size) (a z : Nat) (tx : List UInt8) (htx : tx.length ≤ 140737488355328) (w : World) (HN : Calls Tryz.prog 20 #[.string s, .int .i64 (p : Int)] (w.alloc (.cells #[.int .i64 0, .string ⟨#[]⟩, .string ⟨#[]⟩, .slice none 0 0, .slice none 0 0, .int .i64 0, .int .i64 0] 53)) fun e w' => Below (w.alloc (.cells #[.int .i64 0, .string ⟨#[]⟩, .string ⟨#[]⟩, .slice none 0 0, .slice none 0 0, .int .i64 0, .int .i64 0] 53)).heap.size (w.alloc (.cells #[.int .i64 0, .string ⟨#[]⟩, .string ⟨#[]⟩, .slice none 0 0, .slice none 0 0, .int .i64 0, .int .i64 0] 53)) w' ∧ e = .returned (pc5 0 a z tx 0)) :
    Calls Tryz.prog 21 #[.string s, .int .i64 (p : Int), .int .i64 (d : Int)] w fun e w' => An5 h w (.ok (.mk 3 (bT tx) .empty [] []) z) e w' := by
  have HNN := Hid.mk HN
  have HTx := Hid.mk htx
  clear HN htx
  go_enter Tryz.func21, Tryz.ntmps21
  go_wp2_with fail
  refine HNN.out.mono ?_
  rintro e w1 ⟨hb1, rfl⟩
  obtain ⟨hsz, hbw, hbx⟩ := box_pc hb1
  rw [heap_alloc_new] at hbx
  obtain ⟨c0, c1, c2, c3, c4, c5, c6, f0, f1, f2, f3, f4, f5, f6⟩ := box7_cells hbx
  have HX := Hid.mk hbx
  have HB := Hid.mk hbw
  clear hb1 hbx hbw
  unfold pc5
  go_wp2_with fail
  (try simp only [Exit.inBlock, Exit.then])
  generalize hz7 : (((((((w1.setCell ⟨w.heap.size, 0, none⟩ (.int .i64 3)).setCell ⟨w.heap.size, 1, none⟩ (.string ⟨tx.toArray⟩)).setCell ⟨w.heap.size, 2, none⟩ (.string ⟨#[]⟩)).setCell ⟨w.heap.size, 3, none⟩ (.slice none 0 0)).setCell ⟨w.heap.size, 4, none⟩ (.slice none 0 0)).setCell ⟨w.heap.size, 5, none⟩ (.int .i64 (z : Int))).setCell ⟨w.heap.size, 6, none⟩ (.int .i64 0)) = wz
  obtain ⟨e7, k7, s7⟩ := rbox_set7 w1 _ _ _ _ _ _ _ _ _ _ _ _ _ _ _ _ HX.out wz hz7.symm
  have e8 := (Below.heap_alloc wz (.cells #[.int .u8 0, .int .i64 (a : Int), .int .i64 (z : Int), .string ⟨tx.toArray⟩, .int .i64 0] 50) w.heap.size (by omega)).trans e7
  obtain ⟨d0, d1, d2, d3, d4, d5, d6, _⟩ := box7_cells e8
  have hbz : Below w.heap.size w wz := by rw [← hz7]; exact ((((((HB.out.setCell (p := ⟨w.heap.size, 0, none⟩) (Nat.le_refl _) _).setCell (p := ⟨w.heap.size, 1, none⟩) (Nat.le_refl _) _).setCell (p := ⟨w.heap.size, 2, none⟩) (Nat.le_refl _) _).setCell (p := ⟨w.heap.size, 3, none⟩) (Nat.le_refl _) _).setCell (p := ⟨w.heap.size, 4, none⟩) (Nat.le_refl _) _).setCell (p := ⟨w.heap.size, 5, none⟩) (Nat.le_refl _) _).setCell (p := ⟨w.heap.size, 6, none⟩) (Nat.le_refl _) _
  refine bodyPost_ret (v := .agg #[.int .i64 3, .string ⟨tx.toArray⟩, .string ⟨#[]⟩, .slice none 0 0, .slice none 0 0, .int .i64 (z : Int), .int .i64 0]) (by simp [results, Tryz.results21, go_sem, d0, d1, d2, d3, d4, d5, d6]) rfl ?_
  exact ⟨hbz.alloc hbz.size _, _, _, _, _, _, rfl, inF_leaf _ _ _ 3 (bT tx) .empty (by show tx.toArray.size ≤ _; have := HTx.out; simpa using this) (by decide)⟩

set_option maxRecDepth 100000 in
set_option maxHeartbeats 3200000 in
theorem w_5Read_k11 (s : ByteArray) (hs : s.size ≤ 1048576) (h d p : Nat) (hp : p ≤ s.size) (a z : Nat) (tx : List UInt8) (htx : tx.length ≤ 140737488355328) (w : World) (HN : Calls Tryz.prog 20 #[.string s, .int .i64 (p : Int)] (w.alloc (.cells #[.int .i64 0, .string ⟨#[]⟩, .string ⟨#[]⟩, .slice none 0 0, .slice none 0 0, .int .i64 0, .int .i64 0] 53)) fun e w' => Below (w.alloc (.cells #[.int .i64 0, .string ⟨#[]⟩, .string ⟨#[]⟩, .slice none 0 0, .slice none 0 0, .int .i64 0, .int .i64 0] 53)).heap.size (w.alloc (.cells #[.int .i64 0, .string ⟨#[]⟩, .string ⟨#[]⟩, .slice none 0 0, .slice none 0 0, .int .i64 0, .int .i64 0] 53)) w' ∧ e = .returned (pc5 34 a z tx 0)) :
    Calls Tryz.prog 21 #[.string s, .int .i64 (p : Int), .int .i64 (d : Int)] w fun e w' => An5 h w (.ok (.mk 4 .empty (bT tx) [] []) z) e w' := by
  have HNN := Hid.mk HN
  have HTx := Hid.mk htx
  clear HN htx
  go_enter Tryz.func21, Tryz.ntmps21
  go_wp2_with fail
  refine HNN.out.mono ?_
  rintro e w1 ⟨hb1, rfl⟩
  obtain ⟨hsz, hbw, hbx⟩ := box_pc hb1
  rw [heap_alloc_new] at hbx
  obtain ⟨c0, c1, c2, c3, c4, c5, c6, f0, f1, f2, f3, f4, f5, f6⟩ := box7_cells hbx
  have HX := Hid.mk hbx
  have HB := Hid.mk hbw
  clear hb1 hbx hbw
  unfold pc5
  go_wp2_with fail
  (try simp only [Exit.inBlock, Exit.then])
  generalize hz7 : (((((((w1.setCell ⟨w.heap.size, 0, none⟩ (.int .i64 4)).setCell ⟨w.heap.size, 1, none⟩ (.string ⟨#[]⟩)).setCell ⟨w.heap.size, 2, none⟩ (.string ⟨tx.toArray⟩)).setCell ⟨w.heap.size, 3, none⟩ (.slice none 0 0)).setCell ⟨w.heap.size, 4, none⟩ (.slice none 0 0)).setCell ⟨w.heap.size, 5, none⟩ (.int .i64 (z : Int))).setCell ⟨w.heap.size, 6, none⟩ (.int .i64 0)) = wz
  obtain ⟨e7, k7, s7⟩ := rbox_set7 w1 _ _ _ _ _ _ _ _ _ _ _ _ _ _ _ _ HX.out wz hz7.symm
  have e8 := (Below.heap_alloc wz (.cells #[.int .u8 34, .int .i64 (a : Int), .int .i64 (z : Int), .string ⟨tx.toArray⟩, .int .i64 0] 50) w.heap.size (by omega)).trans e7
  obtain ⟨d0, d1, d2, d3, d4, d5, d6, _⟩ := box7_cells e8
  have hbz : Below w.heap.size w wz := by rw [← hz7]; exact ((((((HB.out.setCell (p := ⟨w.heap.size, 0, none⟩) (Nat.le_refl _) _).setCell (p := ⟨w.heap.size, 1, none⟩) (Nat.le_refl _) _).setCell (p := ⟨w.heap.size, 2, none⟩) (Nat.le_refl _) _).setCell (p := ⟨w.heap.size, 3, none⟩) (Nat.le_refl _) _).setCell (p := ⟨w.heap.size, 4, none⟩) (Nat.le_refl _) _).setCell (p := ⟨w.heap.size, 5, none⟩) (Nat.le_refl _) _).setCell (p := ⟨w.heap.size, 6, none⟩) (Nat.le_refl _) _
  refine bodyPost_ret (v := .agg #[.int .i64 4, .string ⟨#[]⟩, .string ⟨tx.toArray⟩, .slice none 0 0, .slice none 0 0, .int .i64 (z : Int), .int .i64 0]) (by simp [results, Tryz.results21, go_sem, d0, d1, d2, d3, d4, d5, d6]) rfl ?_
  exact ⟨hbz.alloc hbz.size _, _, _, _, _, _, rfl, inF_leaf _ _ _ 4 .empty (bT tx) (by decide) (by show tx.toArray.size ≤ _; have := HTx.out; simpa using this)⟩

end Go.Proofs.YtfgfgcecbodjeaaGreatDoor
namespace Go.Proofs.YtfgfgcecbodjeaaGreatDoor
open Go.RowKit Go.Shelf
set_option linter.unusedVariables false
set_option linter.unusedSimpArgs false
attribute [local go_sem] Oper.semAt_some

set_option maxRecDepth 100000 in
set_option maxHeartbeats 3200000 in
theorem w_5Read_bad (s : ByteArray) (hs : s.size ≤ 1048576) (h d p : Nat) (hp : p ≤ s.size) (a z : Nat) (tx : List UInt8) (cd : Nat) (hcd : cd ≠ 0) (w : World) (HN : Calls Tryz.prog 20 #[.string s, .int .i64 (p : Int)] (w.alloc (.cells #[.int .i64 0, .string ⟨#[]⟩, .string ⟨#[]⟩, .slice none 0 0, .slice none 0 0, .int .i64 0, .int .i64 0] 53)) fun e w' => Below (w.alloc (.cells #[.int .i64 0, .string ⟨#[]⟩, .string ⟨#[]⟩, .slice none 0 0, .slice none 0 0, .int .i64 0, .int .i64 0] 53)).heap.size (w.alloc (.cells #[.int .i64 0, .string ⟨#[]⟩, .string ⟨#[]⟩, .slice none 0 0, .slice none 0 0, .int .i64 0, .int .i64 0] 53)) w' ∧ ∃ sg, e = .returned (pc5 sg a z tx cd)) :
    Calls Tryz.prog 21 #[.string s, .int .i64 (p : Int), .int .i64 (d : Int)] w fun e w' => An5 h w (.bad cd a) e w' := by
  have HNN := Hid.mk HN
  clear HN
  have HC0 := Hid.mk hcd
  have hcb : (((cd : Nat) : Int) == 0) = false := by rw [beq_eq_false_iff_ne]; omega
  have hcn : ¬ ((cd : Nat) : Int) = 0 := by omega
  clear hcd
  have HWr : Hid (∀ (sg : Nat) (u : World), Calls Tryz.prog 34 #[.agg #[.int .u8 (sg : Int), .int .i64 (a : Int), .int .i64 (z : Int), .string ⟨tx.toArray⟩, .int .i64 (cd : Int)]] u fun e w' => Below u.heap.size u w' ∧ e = .returned (bad5 a cd))   := fun sg u => by
    have hw := w_5wrong sg a z tx cd u
    rw [if_neg HC0.out] at hw
    exact hw
  go_enter Tryz.func21, Tryz.ntmps21
  go_wp2_with fail
  refine HNN.out.mono ?_
  rintro e w1 ⟨hb1, sg, rfl⟩
  obtain ⟨hsz, hbw, hbx⟩ := box_pc hb1
  rw [heap_alloc_new] at hbx
  have HX1 := Hid.mk hbx
  have HB1 := Hid.mk hbw
  clear hb1 hbx hbw
  unfold pc5
  go_wp2_with fail
  refine (HWr.out sg _).mono ?_
  rintro e w2 ⟨hb2, rfl⟩
  have hz2 := hb2.size
  rw [World.size_alloc] at hz2
  have hbx : w2.heap[w.heap.size]? = some (.cells #[.int .i64 0, .string ⟨#[]⟩, .string ⟨#[]⟩, .slice none 0 0, .slice none 0 0, .int .i64 0, .int .i64 0] 53 (0, 0)) := (hb2.block _ (by simp; omega)).trans ((Below.heap_alloc _ _ _ hsz).trans HX1.out)
  have hbw : Below w.heap.size w w2 := (HB1.out.alloc HB1.out.size _).trans (hb2.mono (by simp; omega))
  obtain ⟨c0, c1, c2, c3, c4, c5, c6, f0, f1, f2, f3, f4, f5, f6⟩ := box7_cells hbx
  have HX := Hid.mk hbx
  have HB := Hid.mk hbw
  clear hb2 hbx hbw hz2
  unfold bad5 ans5
  go_wp2_with fail
  (try simp only [Exit.inBlock, Exit.then])
  generalize hz7 : (((((((w2.setCell ⟨w.heap.size, 0, none⟩ (.int .i64 0)).setCell ⟨w.heap.size, 1, none⟩ (.string ⟨#[]⟩)).setCell ⟨w.heap.size, 2, none⟩ (.string ⟨#[]⟩)).setCell ⟨w.heap.size, 3, none⟩ (.slice none 0 0)).setCell ⟨w.heap.size, 4, none⟩ (.slice none 0 0)).setCell ⟨w.heap.size, 5, none⟩ (.int .i64 (a : Int))).setCell ⟨w.heap.size, 6, none⟩ (.int .i64 (cd : Int))) = wz
  obtain ⟨e7, k7, s7⟩ := rbox_set7 w2 _ _ _ _ _ _ _ _ _ _ _ _ _ _ _ _ HX.out wz hz7.symm
  obtain ⟨d0, d1, d2, d3, d4, d5, d6, _⟩ := box7_cells e7
  have hbz : Below w.heap.size w wz := by rw [← hz7]; exact ((((((HB.out.setCell (p := ⟨w.heap.size, 0, none⟩) (by show w.heap.size ≤ w.heap.size; omega) _).setCell (p := ⟨w.heap.size, 1, none⟩) (by show w.heap.size ≤ w.heap.size; omega) _).setCell (p := ⟨w.heap.size, 2, none⟩) (by show w.heap.size ≤ w.heap.size; omega) _).setCell (p := ⟨w.heap.size, 3, none⟩) (by show w.heap.size ≤ w.heap.size; omega) _).setCell (p := ⟨w.heap.size, 4, none⟩) (by show w.heap.size ≤ w.heap.size; omega) _).setCell (p := ⟨w.heap.size, 5, none⟩) (by show w.heap.size ≤ w.heap.size; omega) _).setCell (p := ⟨w.heap.size, 6, none⟩) (by show w.heap.size ≤ w.heap.size; omega) _
  refine bodyPost_ret (v := .agg #[.int .i64 0, .string ⟨#[]⟩, .string ⟨#[]⟩, .slice none 0 0, .slice none 0 0, .int .i64 (a : Int), .int .i64 (cd : Int)]) (by simp [results, Tryz.results21, go_sem, d0, d1, d2, d3, d4, d5, d6]) rfl ?_
  exact ⟨hbz, HC0.out, rfl⟩

set_option maxRecDepth 100000 in
set_option maxHeartbeats 3200000 in
theorem w_5Read_end (s : ByteArray) (hs : s.size ≤ 1048576) (h d p : Nat) (hp : p ≤ s.size) (a z : Nat) (tx : List UInt8) (w : World) (HN : Calls Tryz.prog 20 #[.string s, .int .i64 (p : Int)] (w.alloc (.cells #[.int .i64 0, .string ⟨#[]⟩, .string ⟨#[]⟩, .slice none 0 0, .slice none 0 0, .int .i64 0, .int .i64 0] 53)) fun e w' => Below (w.alloc (.cells #[.int .i64 0, .string ⟨#[]⟩, .string ⟨#[]⟩, .slice none 0 0, .slice none 0 0, .int .i64 0, .int .i64 0] 53)).heap.size (w.alloc (.cells #[.int .i64 0, .string ⟨#[]⟩, .string ⟨#[]⟩, .slice none 0 0, .slice none 0 0, .int .i64 0, .int .i64 0] 53)) w' ∧ e = .returned (pc5 36 a z tx 0)) :
    Calls Tryz.prog 21 #[.string s, .int .i64 (p : Int), .int .i64 (d : Int)] w fun e w' => An5 h w (.bad 50 a) e w' := by
  have HNN := Hid.mk HN
  clear HN
  have HWr : Hid (∀ u, Calls Tryz.prog 34 #[.agg #[.int .u8 36, .int .i64 (a : Int), .int .i64 (z : Int), .string ⟨tx.toArray⟩, .int .i64 0]] u fun e w' => Below u.heap.size u w' ∧ e = .returned (bad5 a 50)) := fun u => by
    have hw := w_5wrong 36 a z tx 0 u
    rw [if_pos rfl, if_pos rfl] at hw
    exact hw
  go_enter Tryz.func21, Tryz.ntmps21
  go_wp2_with fail
  refine HNN.out.mono ?_
  rintro e w1 ⟨hb1, rfl⟩
  obtain ⟨hsz, hbw, hbx⟩ := box_pc hb1
  rw [heap_alloc_new] at hbx
  have HX1 := Hid.mk hbx
  have HB1 := Hid.mk hbw
  clear hb1 hbx hbw
  unfold pc5
  go_wp2_with fail
  refine (HWr.out _).mono ?_
  rintro e w2 ⟨hb2, rfl⟩
  have hz2 := hb2.size
  rw [World.size_alloc] at hz2
  have hbx : w2.heap[w.heap.size]? = some (.cells #[.int .i64 0, .string ⟨#[]⟩, .string ⟨#[]⟩, .slice none 0 0, .slice none 0 0, .int .i64 0, .int .i64 0] 53 (0, 0)) := (hb2.block _ (by simp; omega)).trans ((Below.heap_alloc _ _ _ hsz).trans HX1.out)
  have hbw : Below w.heap.size w w2 := (HB1.out.alloc HB1.out.size _).trans (hb2.mono (by simp; omega))
  obtain ⟨c0, c1, c2, c3, c4, c5, c6, f0, f1, f2, f3, f4, f5, f6⟩ := box7_cells hbx
  have HX := Hid.mk hbx
  have HB := Hid.mk hbw
  clear hb2 hbx hbw hz2
  unfold bad5 ans5
  go_wp2_with fail
  (try simp only [Exit.inBlock, Exit.then])
  generalize hz7 : (((((((w2.setCell ⟨w.heap.size, 0, none⟩ (.int .i64 0)).setCell ⟨w.heap.size, 1, none⟩ (.string ⟨#[]⟩)).setCell ⟨w.heap.size, 2, none⟩ (.string ⟨#[]⟩)).setCell ⟨w.heap.size, 3, none⟩ (.slice none 0 0)).setCell ⟨w.heap.size, 4, none⟩ (.slice none 0 0)).setCell ⟨w.heap.size, 5, none⟩ (.int .i64 (a : Int))).setCell ⟨w.heap.size, 6, none⟩ (.int .i64 50)) = wz
  obtain ⟨e7, k7, s7⟩ := rbox_set7 w2 _ _ _ _ _ _ _ _ _ _ _ _ _ _ _ _ HX.out wz hz7.symm
  obtain ⟨d0, d1, d2, d3, d4, d5, d6, _⟩ := box7_cells e7
  have hbz : Below w.heap.size w wz := by rw [← hz7]; exact ((((((HB.out.setCell (p := ⟨w.heap.size, 0, none⟩) (by show w.heap.size ≤ w.heap.size; omega) _).setCell (p := ⟨w.heap.size, 1, none⟩) (by show w.heap.size ≤ w.heap.size; omega) _).setCell (p := ⟨w.heap.size, 2, none⟩) (by show w.heap.size ≤ w.heap.size; omega) _).setCell (p := ⟨w.heap.size, 3, none⟩) (by show w.heap.size ≤ w.heap.size; omega) _).setCell (p := ⟨w.heap.size, 4, none⟩) (by show w.heap.size ≤ w.heap.size; omega) _).setCell (p := ⟨w.heap.size, 5, none⟩) (by show w.heap.size ≤ w.heap.size; omega) _).setCell (p := ⟨w.heap.size, 6, none⟩) (by show w.heap.size ≤ w.heap.size; omega) _
  refine bodyPost_ret (v := .agg #[.int .i64 0, .string ⟨#[]⟩, .string ⟨#[]⟩, .slice none 0 0, .slice none 0 0, .int .i64 (a : Int), .int .i64 50]) (by simp [results, Tryz.results21, go_sem, d0, d1, d2, d3, d4, d5, d6]) rfl ?_
  exact ⟨hbz, by omega, rfl⟩

set_option maxRecDepth 100000 in
set_option maxHeartbeats 3200000 in
theorem w_5Read_k2 (s : ByteArray) (hs : s.size ≤ 1048576) (h d p : Nat) (hp : p ≤ s.size) (a z : Nat) (tx : List UInt8) (w : World) (HN : Calls Tryz.prog 20 #[.string s, .int .i64 (p : Int)] (w.alloc (.cells #[.int .i64 0, .string ⟨#[]⟩, .string ⟨#[]⟩, .slice none 0 0, .slice none 0 0, .int .i64 0, .int .i64 0] 53)) fun e w' => Below (w.alloc (.cells #[.int .i64 0, .string ⟨#[]⟩, .string ⟨#[]⟩, .slice none 0 0, .slice none 0 0, .int .i64 0, .int .i64 0] 53)).heap.size (w.alloc (.cells #[.int .i64 0, .string ⟨#[]⟩, .string ⟨#[]⟩, .slice none 0 0, .slice none 0 0, .int .i64 0, .int .i64 0] 53)) w' ∧ e = .returned (pc5 125 a z tx 0)) :
    Calls Tryz.prog 21 #[.string s, .int .i64 (p : Int), .int .i64 (d : Int)] w fun e w' => An5 h w (.bad 51 a) e w' := by
  have HNN := Hid.mk HN
  clear HN
  have HWr : Hid (∀ u, Calls Tryz.prog 34 #[.agg #[.int .u8 125, .int .i64 (a : Int), .int .i64 (z : Int), .string ⟨tx.toArray⟩, .int .i64 0]] u fun e w' => Below u.heap.size u w' ∧ e = .returned (bad5 a 51)) := fun u => by
    have hw := w_5wrong 125 a z tx 0 u
    rw [if_pos rfl, if_neg (by omega)] at hw
    exact hw
  go_enter Tryz.func21, Tryz.ntmps21
  go_wp2_with fail
  refine HNN.out.mono ?_
  rintro e w1 ⟨hb1, rfl⟩
  obtain ⟨hsz, hbw, hbx⟩ := box_pc hb1
  rw [heap_alloc_new] at hbx
  have HX1 := Hid.mk hbx
  have HB1 := Hid.mk hbw
  clear hb1 hbx hbw
  unfold pc5
  go_wp2_with fail
  refine (HWr.out _).mono ?_
  rintro e w2 ⟨hb2, rfl⟩
  have hz2 := hb2.size
  rw [World.size_alloc] at hz2
  have hbx : w2.heap[w.heap.size]? = some (.cells #[.int .i64 0, .string ⟨#[]⟩, .string ⟨#[]⟩, .slice none 0 0, .slice none 0 0, .int .i64 0, .int .i64 0] 53 (0, 0)) := (hb2.block _ (by simp; omega)).trans ((Below.heap_alloc _ _ _ hsz).trans HX1.out)
  have hbw : Below w.heap.size w w2 := (HB1.out.alloc HB1.out.size _).trans (hb2.mono (by simp; omega))
  obtain ⟨c0, c1, c2, c3, c4, c5, c6, f0, f1, f2, f3, f4, f5, f6⟩ := box7_cells hbx
  have HX := Hid.mk hbx
  have HB := Hid.mk hbw
  clear hb2 hbx hbw hz2
  unfold bad5 ans5
  go_wp2_with fail
  (try simp only [Exit.inBlock, Exit.then])
  generalize hz7 : (((((((w2.setCell ⟨w.heap.size, 0, none⟩ (.int .i64 0)).setCell ⟨w.heap.size, 1, none⟩ (.string ⟨#[]⟩)).setCell ⟨w.heap.size, 2, none⟩ (.string ⟨#[]⟩)).setCell ⟨w.heap.size, 3, none⟩ (.slice none 0 0)).setCell ⟨w.heap.size, 4, none⟩ (.slice none 0 0)).setCell ⟨w.heap.size, 5, none⟩ (.int .i64 (a : Int))).setCell ⟨w.heap.size, 6, none⟩ (.int .i64 51)) = wz
  obtain ⟨e7, k7, s7⟩ := rbox_set7 w2 _ _ _ _ _ _ _ _ _ _ _ _ _ _ _ _ HX.out wz hz7.symm
  obtain ⟨d0, d1, d2, d3, d4, d5, d6, _⟩ := box7_cells e7
  have hbz : Below w.heap.size w wz := by rw [← hz7]; exact ((((((HB.out.setCell (p := ⟨w.heap.size, 0, none⟩) (by show w.heap.size ≤ w.heap.size; omega) _).setCell (p := ⟨w.heap.size, 1, none⟩) (by show w.heap.size ≤ w.heap.size; omega) _).setCell (p := ⟨w.heap.size, 2, none⟩) (by show w.heap.size ≤ w.heap.size; omega) _).setCell (p := ⟨w.heap.size, 3, none⟩) (by show w.heap.size ≤ w.heap.size; omega) _).setCell (p := ⟨w.heap.size, 4, none⟩) (by show w.heap.size ≤ w.heap.size; omega) _).setCell (p := ⟨w.heap.size, 5, none⟩) (by show w.heap.size ≤ w.heap.size; omega) _).setCell (p := ⟨w.heap.size, 6, none⟩) (by show w.heap.size ≤ w.heap.size; omega) _
  refine bodyPost_ret (v := .agg #[.int .i64 0, .string ⟨#[]⟩, .string ⟨#[]⟩, .slice none 0 0, .slice none 0 0, .int .i64 (a : Int), .int .i64 51]) (by simp [results, Tryz.results21, go_sem, d0, d1, d2, d3, d4, d5, d6]) rfl ?_
  exact ⟨hbz, by omega, rfl⟩

set_option maxRecDepth 100000 in
set_option maxHeartbeats 3200000 in
theorem w_5Read_k4 (s : ByteArray) (hs : s.size ≤ 1048576) (h d p : Nat) (hp : p ≤ s.size) (a z : Nat) (tx : List UInt8) (w : World) (HN : Calls Tryz.prog 20 #[.string s, .int .i64 (p : Int)] (w.alloc (.cells #[.int .i64 0, .string ⟨#[]⟩, .string ⟨#[]⟩, .slice none 0 0, .slice none 0 0, .int .i64 0, .int .i64 0] 53)) fun e w' => Below (w.alloc (.cells #[.int .i64 0, .string ⟨#[]⟩, .string ⟨#[]⟩, .slice none 0 0, .slice none 0 0, .int .i64 0, .int .i64 0] 53)).heap.size (w.alloc (.cells #[.int .i64 0, .string ⟨#[]⟩, .string ⟨#[]⟩, .slice none 0 0, .slice none 0 0, .int .i64 0, .int .i64 0] 53)) w' ∧ e = .returned (pc5 93 a z tx 0)) :
    Calls Tryz.prog 21 #[.string s, .int .i64 (p : Int), .int .i64 (d : Int)] w fun e w' => An5 h w (.bad 51 a) e w' := by
  have HNN := Hid.mk HN
  clear HN
  have HWr : Hid (∀ u, Calls Tryz.prog 34 #[.agg #[.int .u8 93, .int .i64 (a : Int), .int .i64 (z : Int), .string ⟨tx.toArray⟩, .int .i64 0]] u fun e w' => Below u.heap.size u w' ∧ e = .returned (bad5 a 51)) := fun u => by
    have hw := w_5wrong 93 a z tx 0 u
    rw [if_pos rfl, if_neg (by omega)] at hw
    exact hw
  go_enter Tryz.func21, Tryz.ntmps21
  go_wp2_with fail
  refine HNN.out.mono ?_
  rintro e w1 ⟨hb1, rfl⟩
  obtain ⟨hsz, hbw, hbx⟩ := box_pc hb1
  rw [heap_alloc_new] at hbx
  have HX1 := Hid.mk hbx
  have HB1 := Hid.mk hbw
  clear hb1 hbx hbw
  unfold pc5
  go_wp2_with fail
  refine (HWr.out _).mono ?_
  rintro e w2 ⟨hb2, rfl⟩
  have hz2 := hb2.size
  rw [World.size_alloc] at hz2
  have hbx : w2.heap[w.heap.size]? = some (.cells #[.int .i64 0, .string ⟨#[]⟩, .string ⟨#[]⟩, .slice none 0 0, .slice none 0 0, .int .i64 0, .int .i64 0] 53 (0, 0)) := (hb2.block _ (by simp; omega)).trans ((Below.heap_alloc _ _ _ hsz).trans HX1.out)
  have hbw : Below w.heap.size w w2 := (HB1.out.alloc HB1.out.size _).trans (hb2.mono (by simp; omega))
  obtain ⟨c0, c1, c2, c3, c4, c5, c6, f0, f1, f2, f3, f4, f5, f6⟩ := box7_cells hbx
  have HX := Hid.mk hbx
  have HB := Hid.mk hbw
  clear hb2 hbx hbw hz2
  unfold bad5 ans5
  go_wp2_with fail
  (try simp only [Exit.inBlock, Exit.then])
  generalize hz7 : (((((((w2.setCell ⟨w.heap.size, 0, none⟩ (.int .i64 0)).setCell ⟨w.heap.size, 1, none⟩ (.string ⟨#[]⟩)).setCell ⟨w.heap.size, 2, none⟩ (.string ⟨#[]⟩)).setCell ⟨w.heap.size, 3, none⟩ (.slice none 0 0)).setCell ⟨w.heap.size, 4, none⟩ (.slice none 0 0)).setCell ⟨w.heap.size, 5, none⟩ (.int .i64 (a : Int))).setCell ⟨w.heap.size, 6, none⟩ (.int .i64 51)) = wz
  obtain ⟨e7, k7, s7⟩ := rbox_set7 w2 _ _ _ _ _ _ _ _ _ _ _ _ _ _ _ _ HX.out wz hz7.symm
  obtain ⟨d0, d1, d2, d3, d4, d5, d6, _⟩ := box7_cells e7
  have hbz : Below w.heap.size w wz := by rw [← hz7]; exact ((((((HB.out.setCell (p := ⟨w.heap.size, 0, none⟩) (by show w.heap.size ≤ w.heap.size; omega) _).setCell (p := ⟨w.heap.size, 1, none⟩) (by show w.heap.size ≤ w.heap.size; omega) _).setCell (p := ⟨w.heap.size, 2, none⟩) (by show w.heap.size ≤ w.heap.size; omega) _).setCell (p := ⟨w.heap.size, 3, none⟩) (by show w.heap.size ≤ w.heap.size; omega) _).setCell (p := ⟨w.heap.size, 4, none⟩) (by show w.heap.size ≤ w.heap.size; omega) _).setCell (p := ⟨w.heap.size, 5, none⟩) (by show w.heap.size ≤ w.heap.size; omega) _).setCell (p := ⟨w.heap.size, 6, none⟩) (by show w.heap.size ≤ w.heap.size; omega) _
  refine bodyPost_ret (v := .agg #[.int .i64 0, .string ⟨#[]⟩, .string ⟨#[]⟩, .slice none 0 0, .slice none 0 0, .int .i64 (a : Int), .int .i64 51]) (by simp [results, Tryz.results21, go_sem, d0, d1, d2, d3, d4, d5, d6]) rfl ?_
  exact ⟨hbz, by omega, rfl⟩

set_option maxRecDepth 100000 in
set_option maxHeartbeats 3200000 in
theorem w_5Read_k5 (s : ByteArray) (hs : s.size ≤ 1048576) (h d p : Nat) (hp : p ≤ s.size) (a z : Nat) (tx : List UInt8) (w : World) (HN : Calls Tryz.prog 20 #[.string s, .int .i64 (p : Int)] (w.alloc (.cells #[.int .i64 0, .string ⟨#[]⟩, .string ⟨#[]⟩, .slice none 0 0, .slice none 0 0, .int .i64 0, .int .i64 0] 53)) fun e w' => Below (w.alloc (.cells #[.int .i64 0, .string ⟨#[]⟩, .string ⟨#[]⟩, .slice none 0 0, .slice none 0 0, .int .i64 0, .int .i64 0] 53)).heap.size (w.alloc (.cells #[.int .i64 0, .string ⟨#[]⟩, .string ⟨#[]⟩, .slice none 0 0, .slice none 0 0, .int .i64 0, .int .i64 0] 53)) w' ∧ e = .returned (pc5 58 a z tx 0)) :
    Calls Tryz.prog 21 #[.string s, .int .i64 (p : Int), .int .i64 (d : Int)] w fun e w' => An5 h w (.bad 51 a) e w' := by
  have HNN := Hid.mk HN
  clear HN
  have HWr : Hid (∀ u, Calls Tryz.prog 34 #[.agg #[.int .u8 58, .int .i64 (a : Int), .int .i64 (z : Int), .string ⟨tx.toArray⟩, .int .i64 0]] u fun e w' => Below u.heap.size u w' ∧ e = .returned (bad5 a 51)) := fun u => by
    have hw := w_5wrong 58 a z tx 0 u
    rw [if_pos rfl, if_neg (by omega)] at hw
    exact hw
  go_enter Tryz.func21, Tryz.ntmps21
  go_wp2_with fail
  refine HNN.out.mono ?_
  rintro e w1 ⟨hb1, rfl⟩
  obtain ⟨hsz, hbw, hbx⟩ := box_pc hb1
  rw [heap_alloc_new] at hbx
  have HX1 := Hid.mk hbx
  have HB1 := Hid.mk hbw
  clear hb1 hbx hbw
  unfold pc5
  go_wp2_with fail
  refine (HWr.out _).mono ?_
  rintro e w2 ⟨hb2, rfl⟩
  have hz2 := hb2.size
  rw [World.size_alloc] at hz2
  have hbx : w2.heap[w.heap.size]? = some (.cells #[.int .i64 0, .string ⟨#[]⟩, .string ⟨#[]⟩, .slice none 0 0, .slice none 0 0, .int .i64 0, .int .i64 0] 53 (0, 0)) := (hb2.block _ (by simp; omega)).trans ((Below.heap_alloc _ _ _ hsz).trans HX1.out)
  have hbw : Below w.heap.size w w2 := (HB1.out.alloc HB1.out.size _).trans (hb2.mono (by simp; omega))
  obtain ⟨c0, c1, c2, c3, c4, c5, c6, f0, f1, f2, f3, f4, f5, f6⟩ := box7_cells hbx
  have HX := Hid.mk hbx
  have HB := Hid.mk hbw
  clear hb2 hbx hbw hz2
  unfold bad5 ans5
  go_wp2_with fail
  (try simp only [Exit.inBlock, Exit.then])
  generalize hz7 : (((((((w2.setCell ⟨w.heap.size, 0, none⟩ (.int .i64 0)).setCell ⟨w.heap.size, 1, none⟩ (.string ⟨#[]⟩)).setCell ⟨w.heap.size, 2, none⟩ (.string ⟨#[]⟩)).setCell ⟨w.heap.size, 3, none⟩ (.slice none 0 0)).setCell ⟨w.heap.size, 4, none⟩ (.slice none 0 0)).setCell ⟨w.heap.size, 5, none⟩ (.int .i64 (a : Int))).setCell ⟨w.heap.size, 6, none⟩ (.int .i64 51)) = wz
  obtain ⟨e7, k7, s7⟩ := rbox_set7 w2 _ _ _ _ _ _ _ _ _ _ _ _ _ _ _ _ HX.out wz hz7.symm
  obtain ⟨d0, d1, d2, d3, d4, d5, d6, _⟩ := box7_cells e7
  have hbz : Below w.heap.size w wz := by rw [← hz7]; exact ((((((HB.out.setCell (p := ⟨w.heap.size, 0, none⟩) (by show w.heap.size ≤ w.heap.size; omega) _).setCell (p := ⟨w.heap.size, 1, none⟩) (by show w.heap.size ≤ w.heap.size; omega) _).setCell (p := ⟨w.heap.size, 2, none⟩) (by show w.heap.size ≤ w.heap.size; omega) _).setCell (p := ⟨w.heap.size, 3, none⟩) (by show w.heap.size ≤ w.heap.size; omega) _).setCell (p := ⟨w.heap.size, 4, none⟩) (by show w.heap.size ≤ w.heap.size; omega) _).setCell (p := ⟨w.heap.size, 5, none⟩) (by show w.heap.size ≤ w.heap.size; omega) _).setCell (p := ⟨w.heap.size, 6, none⟩) (by show w.heap.size ≤ w.heap.size; omega) _
  refine bodyPost_ret (v := .agg #[.int .i64 0, .string ⟨#[]⟩, .string ⟨#[]⟩, .slice none 0 0, .slice none 0 0, .int .i64 (a : Int), .int .i64 51]) (by simp [results, Tryz.results21, go_sem, d0, d1, d2, d3, d4, d5, d6]) rfl ?_
  exact ⟨hbz, by omega, rfl⟩

set_option maxRecDepth 100000 in
set_option maxHeartbeats 3200000 in
theorem w_5Read_k6 (s : ByteArray) (hs : s.size ≤ 1048576) (h d p : Nat) (hp : p ≤ s.size) (a z : Nat) (tx : List UInt8) (w : World) (HN : Calls Tryz.prog 20 #[.string s, .int .i64 (p : Int)] (w.alloc (.cells #[.int .i64 0, .string ⟨#[]⟩, .string ⟨#[]⟩, .slice none 0 0, .slice none 0 0, .int .i64 0, .int .i64 0] 53)) fun e w' => Below (w.alloc (.cells #[.int .i64 0, .string ⟨#[]⟩, .string ⟨#[]⟩, .slice none 0 0, .slice none 0 0, .int .i64 0, .int .i64 0] 53)).heap.size (w.alloc (.cells #[.int .i64 0, .string ⟨#[]⟩, .string ⟨#[]⟩, .slice none 0 0, .slice none 0 0, .int .i64 0, .int .i64 0] 53)) w' ∧ e = .returned (pc5 44 a z tx 0)) :
    Calls Tryz.prog 21 #[.string s, .int .i64 (p : Int), .int .i64 (d : Int)] w fun e w' => An5 h w (.bad 51 a) e w' := by
  have HNN := Hid.mk HN
  clear HN
  have HWr : Hid (∀ u, Calls Tryz.prog 34 #[.agg #[.int .u8 44, .int .i64 (a : Int), .int .i64 (z : Int), .string ⟨tx.toArray⟩, .int .i64 0]] u fun e w' => Below u.heap.size u w' ∧ e = .returned (bad5 a 51)) := fun u => by
    have hw := w_5wrong 44 a z tx 0 u
    rw [if_pos rfl, if_neg (by omega)] at hw
    exact hw
  go_enter Tryz.func21, Tryz.ntmps21
  go_wp2_with fail
  refine HNN.out.mono ?_
  rintro e w1 ⟨hb1, rfl⟩
  obtain ⟨hsz, hbw, hbx⟩ := box_pc hb1
  rw [heap_alloc_new] at hbx
  have HX1 := Hid.mk hbx
  have HB1 := Hid.mk hbw
  clear hb1 hbx hbw
  unfold pc5
  go_wp2_with fail
  refine (HWr.out _).mono ?_
  rintro e w2 ⟨hb2, rfl⟩
  have hz2 := hb2.size
  rw [World.size_alloc] at hz2
  have hbx : w2.heap[w.heap.size]? = some (.cells #[.int .i64 0, .string ⟨#[]⟩, .string ⟨#[]⟩, .slice none 0 0, .slice none 0 0, .int .i64 0, .int .i64 0] 53 (0, 0)) := (hb2.block _ (by simp; omega)).trans ((Below.heap_alloc _ _ _ hsz).trans HX1.out)
  have hbw : Below w.heap.size w w2 := (HB1.out.alloc HB1.out.size _).trans (hb2.mono (by simp; omega))
  obtain ⟨c0, c1, c2, c3, c4, c5, c6, f0, f1, f2, f3, f4, f5, f6⟩ := box7_cells hbx
  have HX := Hid.mk hbx
  have HB := Hid.mk hbw
  clear hb2 hbx hbw hz2
  unfold bad5 ans5
  go_wp2_with fail
  (try simp only [Exit.inBlock, Exit.then])
  generalize hz7 : (((((((w2.setCell ⟨w.heap.size, 0, none⟩ (.int .i64 0)).setCell ⟨w.heap.size, 1, none⟩ (.string ⟨#[]⟩)).setCell ⟨w.heap.size, 2, none⟩ (.string ⟨#[]⟩)).setCell ⟨w.heap.size, 3, none⟩ (.slice none 0 0)).setCell ⟨w.heap.size, 4, none⟩ (.slice none 0 0)).setCell ⟨w.heap.size, 5, none⟩ (.int .i64 (a : Int))).setCell ⟨w.heap.size, 6, none⟩ (.int .i64 51)) = wz
  obtain ⟨e7, k7, s7⟩ := rbox_set7 w2 _ _ _ _ _ _ _ _ _ _ _ _ _ _ _ _ HX.out wz hz7.symm
  obtain ⟨d0, d1, d2, d3, d4, d5, d6, _⟩ := box7_cells e7
  have hbz : Below w.heap.size w wz := by rw [← hz7]; exact ((((((HB.out.setCell (p := ⟨w.heap.size, 0, none⟩) (by show w.heap.size ≤ w.heap.size; omega) _).setCell (p := ⟨w.heap.size, 1, none⟩) (by show w.heap.size ≤ w.heap.size; omega) _).setCell (p := ⟨w.heap.size, 2, none⟩) (by show w.heap.size ≤ w.heap.size; omega) _).setCell (p := ⟨w.heap.size, 3, none⟩) (by show w.heap.size ≤ w.heap.size; omega) _).setCell (p := ⟨w.heap.size, 4, none⟩) (by show w.heap.size ≤ w.heap.size; omega) _).setCell (p := ⟨w.heap.size, 5, none⟩) (by show w.heap.size ≤ w.heap.size; omega) _).setCell (p := ⟨w.heap.size, 6, none⟩) (by show w.heap.size ≤ w.heap.size; omega) _
  refine bodyPost_ret (v := .agg #[.int .i64 0, .string ⟨#[]⟩, .string ⟨#[]⟩, .slice none 0 0, .slice none 0 0, .int .i64 (a : Int), .int .i64 51]) (by simp [results, Tryz.results21, go_sem, d0, d1, d2, d3, d4, d5, d6]) rfl ?_
  exact ⟨hbz, by omega, rfl⟩

end Go.Proofs.YtfgfgcecbodjeaaGreatDoor
