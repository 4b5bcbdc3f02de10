import Derived.Test.YtcbngdkekdhfeaaGreatDoorM38
import Derived.Maps.AppendAt
namespace Go.Proofs.YtcbngdkekdhfeaaGreatDoor
open Go.RowKit Go.Shelf
set_option linter.unusedVariables false
set_option linter.unusedSimpArgs false
attribute [local go_sem] Oper.semAt_some

theorem folL_rd (l : List UInt8) (vl : Tok → Nat → Rd VT) (p : Nat) : folL l vl p = if behL l p cBl < l.length then (match rdL l vl p with
    | .ok T q => .ok (some T) q
    | .bad e q => .bad e q) else .ok none p := by
  unfold folL rdL mustL
  by_cases h1 : behL l p cBl < l.length
  · rw [if_pos h1, if_pos h1, if_pos h1]
    by_cases h2 : (nextT l (behL l p cBl)).err = 0
    · rw [if_pos h2, if_pos h2]; (try rfl)
    · rw [if_neg h2, if_neg h2]; (try rfl)
  · rw [if_neg h1, if_neg h1]; (try rfl)
structure RwC (lo H k : Nat) (io : Option Addr) (cap : Nat) (c : Nat → Fin 5 → Value) (xs : List VT) (w : World) : Prop where
  len : xs.length = k
  ll : lo ≤ w.heap.size
  own : w.ownsRow lo 27 5 (.slice io k cap) k (flat c k)
  trees : ∀ i, (hi : i < xs.length) → InD (rowD lo (.slice io k cap)) w (H + 1) xs[i] (.agg #[c i 0, c i 1, c i 2, c i 3, c i 4])
theorem RwC.keep {lo H k cap : Nat} {io : Option Addr} {c : Nat → Fin 5 → Value} {xs : List VT} {w w' : World} (h : RwC lo H k io cap c xs w) (hz : w.heap.size ≤ w'.heap.size) (hs : ∀ b, lo ≤ b → b < w.heap.size → w'.heap[b]? = w.heap[b]?) : RwC lo H k io cap c xs w' := by
  have h2 := h.ll
  exact ⟨h.len, by omega, own_keepR h.own (fun b hb hl => hs b (own_low h.own hb).1 hl), fun i hi => InD.keep hz (fun b hb hl => hs b hb.1 hl) (fun b hb _ => hb) (h.trees i hi)⟩
theorem RwC.low {lo H k cap : Nat} {io : Option Addr} {c : Nat → Fin 5 → Value} {xs : List VT} {w w' : World} (h : RwC lo H k io cap c xs w) (hb : Below w.heap.size w w') : RwC lo H k io cap c xs w' := h.keep hb.size (fun b _ hl => hb.block b hl)
theorem RwC.app {lo H k cap g cap' : Nat} {io : Option Addr} {c : Nat → Fin 5 → Value} {xs : List VT} {W w4 : World} {o : Obj} {T : VT} {x0 x1 x2 x3 x4 : Value} (h : RwC lo H k io cap c xs W) (hT : InD (rowD lo (.slice io k cap)) W (H + 1) T (.agg #[x0, x1, x2, x3, x4]))
    (hown : w4.ownsRow lo 27 5 (.slice (some ⟨g, 0, none⟩) (k + 1) cap') (k + 1) (flat c k ++ [x0, x1, x2, x3, x4])) (hg : (W.alloc o).grownBy w4 (Value.slice io k cap).ownBlock) (hat : (Value.slice (some ⟨g, 0, none⟩) (k + 1) cap').ownBlock = (Value.slice io k cap).ownBlock ∨ (Value.slice (some ⟨g, 0, none⟩) (k + 1) cap').ownBlock = some (W.alloc o).heap.size) :
    RwC lo H (k + 1) (some ⟨g, 0, none⟩) cap' (cUp k c x0 x1 x2 x3 x4) (xs ++ [T]) w4 ∧ (∀ b, b < W.heap.size → (Value.slice io k cap).ownBlock ≠ some b → w4.heap[b]? = W.heap[b]?) := by
  have hlen := h.len
  have hll := h.ll
  have hsz := hg.size
  rw [World.size_alloc] at hsz
  have hat' : (Value.slice io k cap).ownBlock = some g ∨ g = W.heap.size + 1 := by
    rw [World.size_alloc] at hat
    rcases hat with e | e
    · exact .inl e.symm
    · exact .inr (by simpa [Value.ownBlock] using e)
  have old : ∀ b, b < W.heap.size → (Value.slice io k cap).ownBlock ≠ some b → w4.heap[b]? = W.heap[b]? := fun b hb hne => (hg.block b (by simp; omega) (fun e => hne e.symm)).trans (Below.heap_alloc _ _ b hb)
  have kk : ∀ b, rowD lo (.slice io k cap) b → b < W.heap.size → w4.heap[b]? = W.heap[b]? := fun b hb hl => old b hl hb.2
  have dd : ∀ b, rowD lo (.slice io k cap) b → b < W.heap.size → rowD lo (.slice (some ⟨g, 0, none⟩) (k + 1) cap') b := fun b hb hl => ⟨hb.1, fun e => by
    simp [Value.ownBlock] at e
    subst e
    rcases hat' with h1 | h1
    · exact hb.2 h1
    · omega⟩
  refine ⟨⟨by rw [List.length_append, hlen]; rfl, by omega, by rw [flat_cUp]; exact hown, fun i hi => ?_⟩, old⟩
  rw [List.length_append] at hi
  have hi' : i < xs.length + 1 := hi
  by_cases hik : i < xs.length
  · rw [List.getElem_append_left hik]
    have e : cUp k c x0 x1 x2 x3 x4 i = c i := by unfold cUp; rw [if_neg (by omega)]
    rw [e]
    exact InD.keep (by omega) kk dd (h.trees i hik)
  · have e : i = xs.length := by omega
    subst e
    rw [List.getElem_append_right (Nat.le_refl _)]
    have e0 : cUp k c x0 x1 x2 x3 x4 xs.length 0 = x0 := by unfold cUp; rw [if_pos hlen]
    have e1 : cUp k c x0 x1 x2 x3 x4 xs.length 1 = x1 := by unfold cUp; rw [if_pos hlen]
    have e2 : cUp k c x0 x1 x2 x3 x4 xs.length 2 = x2 := by unfold cUp; rw [if_pos hlen]
    have e3 : cUp k c x0 x1 x2 x3 x4 xs.length 3 = x3 := by unfold cUp; rw [if_pos hlen]
    have e4 : cUp k c x0 x1 x2 x3 x4 xs.length 4 = x4 := by unfold cUp; rw [if_pos hlen]
    rw [e0, e1, e2, e3, e4]
    simp only [Nat.sub_self, List.getElem_cons_zero]
    exact InD.keep (by omega) kk dd hT
def Many5R (H : Nat) (R : List VT × Nat × Nat) (w : World) (e : Ending) (w' : World) : Prop := Below w.heap.size w w' ∧ ∃ k io cap c, RwC w.heap.size H k io cap c R.1 w' ∧
  ((R.2.1 = 0 ∧ e = .returned (.tuple #[.slice io k cap, .int .i64 0, .int .i64 0, .slice io k cap])) ∨
   (R.2.1 ≠ 0 ∧ ∃ g, e = .returned (.tuple #[.slice (some ⟨g, 0, none⟩) 0 0, .int .i64 (R.2.1 : Int), .int .i64 (R.2.2 : Int), .slice io k cap])))
theorem own_empty5 (w : World) : (w.alloc (.cells #[] 27)).ownsRow w.heap.size 27 5 (.slice (some ⟨w.heap.size, 0, none⟩) 0 0) 0 [] :=
  ⟨rfl, Or.inr ⟨w.heap.size, 0, #[], rfl, Nat.le_refl _, heap_alloc_new w _, Nat.le_refl _, by unfold maxLen; omega, rfl, rfl⟩⟩

set_option maxRecDepth 100000 in
set_option maxHeartbeats 6400000 in
theorem w_5Many (s : ByteArray) (hs : s.size ≤ 1048576) (h : Nat) (vl : Tok → Nat → Rd VT) (HR : RdC s h 0 vl) (HU : ValUp s vl) (w : World) :
    Calls Tryz.prog 10 #[.string s] w fun e w' => Many5R h (eachL s.data.toList vl (s.size + 1) [] 0) w e w' := by
  obtain ⟨i0, hi0, hz0, hz1, hz2⟩ := info_parts Tryz.infoVr
  have hl : s.data.toList.length = s.size := size_lst s
  have HRd := Hid.mk (fun (p : Nat) (u : World) (hp : p ≤ s.size) => (show Calls Tryz.prog 27 #[.string s, .int .i64 (p : Int), .int .i64 0] u (fun e w' => An5 h u (rdL s.data.toList vl p) e w') from HR p u hp))
  have HUp := Hid.mk HU
  have HN := Hid.mk (fun (u : World) (q : Nat) (hq : q ≤ s.size) => w_5Next s q u hq hs)
  obtain ⟨R, hR⟩ : ∃ R, eachL s.data.toList vl (s.size + 1) [] 0 = R := ⟨_, rfl⟩
  rw [hR]
  have HRR0 := Hid.mk hR
  have HS0 : Hid (RwC w.heap.size h 0 (some ⟨w.heap.size, 0, none⟩) 0 (fun _ _ => undef) [] (w.alloc (.cells #[] 27)) ∧ Below w.heap.size w (w.alloc (.cells #[] 27))) := ⟨⟨rfl, by simp, own_empty5 w, fun i hi => absurd hi (Nat.not_lt_zero i)⟩, below1 w _⟩
  clear hR HR HU
  go_enter Tryz.func10, Tryz.ntmps10
  go_wp2_with fail
  go_loopw [6, 7] (fun l a wr => ∃ (f : Nat) (xs : List VT) (q k : Nat) (io : Option Addr) (cap : Nat) (c : Nat → Fin 5 → Value), q ≤ s.size ∧ l = .slice io k cap ∧ a = .int .i64 (q : Int) ∧ Hid (s.size < q + f) ∧ Hid (RwC w.heap.size h k io cap c xs wr ∧ Below w.heap.size w wr) ∧ Hid (eachL s.data.toList vl f xs q = R) ∧ Hid (xs.length ≤ q)) (fun _ a _ => s.size + 1 - (intOf a).toNat)
  case atStart => exact ⟨s.size + 1, [], 0, 0, _, 0, _, Nat.zero_le _, rfl, rfl, (by show s.size < 0 + (s.size + 1); omega), HS0, HRR0, Nat.zero_le _⟩
  case round =>
    clear HS0 HRR0
    obtain ⟨f, xs, q, k, io, cap, c, hq, rfl, rfl, HF, HS, HG, HFit⟩ := hrel
    obtain ⟨f, rfl⟩ : ∃ f', f = f' + 1 := ⟨f - 1, by have := HF.out; omega⟩
    have hle : (q : Int) ≤ (s.size : Int) := by omega
    go_wp2_with fail
    refine (HN.out _ q hq).mono ?_
    rintro e w1 ⟨hb1, hnx⟩
    have HS1 : Hid (RwC w.heap.size h k io cap c xs w1 ∧ Below w.heap.size w w1) := ⟨HS.out.1.low hb1, HS.out.2.trans (hb1.mono HS.out.2.size)⟩
    have hG := HG.out
    unfold eachL at hG
    rw [folL_rd] at hG
    clear hb1 HS HG
    rcases hnx with ⟨hend, rfl⟩ | ⟨hin, hpc⟩
    · rw [if_neg hend] at hG
      have HR1 : Hid ((xs, 0, 0) = R) := hG
      clear hG hend
      unfold pc5
      go_wp2_with fail
      refine bodyPost_ret (v := .tuple #[.slice io k cap, .int .i64 0, .int .i64 0, .slice io k cap]) (by simp [results, Tryz.results10, go_sem]) rfl ?_
      rw [← HR1.out]
      exact ⟨HS1.out.2.alloc HS1.out.2.size _, k, io, cap, c, HS1.out.1.low (below1 w1 _), .inl ⟨rfl, rfl⟩⟩
    · rw [if_pos hin] at hG
      obtain ⟨sg, a, z, tx, cd, rfl, hcase⟩ : ∃ sg a z tx cd, e = .returned (pc5 sg a z tx cd) ∧ (¬ cd = 0 ∨ (cd = 0 ∧ ¬ sg = 36)) := by
        rcases hpc with ⟨h2, rfl⟩ | ⟨h2, sg, rfl⟩
        · have hk := nextT_kind h2
          exact ⟨_, _, _, _, _, rfl, .inr ⟨rfl, sg5_36 hk.1 hk.2⟩⟩
        · exact ⟨_, _, _, _, _, rfl, .inl h2⟩
      have HG1 := Hid.mk hG
      clear hpc hin hG
      unfold pc5
      rcases hcase with hc0 | ⟨rfl, hs1⟩
      · have hcb : (((cd : Nat) : Int) == 0) = false := by rw [beq_eq_false_iff_ne]; omega
        have hcn : ¬ ((cd : Nat) : Int) = 0 := by omega
        clear hc0
        go_wp2_with fail
        generalize hW2 : w1.alloc (.cells #[.int .u8 (sg : Int), .int .i64 (a : Int), .int .i64 (z : Int), .string ⟨tx.toArray⟩, .int .i64 (cd : Int)] 69) = W2
        have hb2 : Below w1.heap.size w1 W2 := by rw [← hW2]; exact below1 w1 _
        have HS2 : Hid (RwC w.heap.size h k io cap c xs W2 ∧ Below w.heap.size w W2) := ⟨HS1.out.1.low hb2, HS1.out.2.trans (hb2.mono HS1.out.2.size)⟩
        clear hb2 HS1 hW2
        refine (HRd.out q _ hq).mono ?_
        rintro e w3 ⟨hb3, hm⟩
        have HS3 : Hid (RwC w.heap.size h k io cap c xs w3 ∧ Below w.heap.size w w3) := ⟨HS2.out.1.low hb3, HS2.out.2.trans (hb3.mono HS2.out.2.size)⟩
        have hG := HG1.out
        cases hr : rdL s.data.toList vl q with
        | bad er q2 =>
          rw [hr] at hm hG
          obtain ⟨h0, rfl⟩ := hm
          have HR1 : Hid ((xs, er, q2) = R) := hG
          have H0 := Hid.mk h0
          have hcb2 : (((er : Nat) : Int) == 0) = false := by rw [beq_eq_false_iff_ne]; omega
          have hcn2 : ¬ ((er : Nat) : Int) = 0 := by omega
          clear hr hG h0 hb3 HG1
          unfold bad5 ans5
          go_wp2_with fail
          go_region
          all_goals go_wp2_with fail
          all_goals refine bodyPost_ret (v := .tuple #[.slice (some ⟨w3.heap.size + 1, 0, none⟩) 0 0, .int .i64 (er : Int), .int .i64 (q2 : Int), .slice io k cap]) (by simp [results, Tryz.results10, go_sem]) rfl ?_
          all_goals rw [← HR1.out]
          all_goals have hX := ((below1 w3 (.cells #[.int .i64 0, .string ⟨#[]⟩, .string ⟨#[]⟩, .slice none 0 0, .slice none 0 0, .int .i64 (q2 : Int), .int .i64 (er : Int)] 72)).alloc (by simp) (.cells #[] 27)).drew
          all_goals exact ⟨HS3.out.2.trans (hX.mono HS3.out.2.size), k, io, cap, c, HS3.out.1.low hX, .inr ⟨H0.out, _, rfl⟩⟩
        | ok T q2 =>
          rw [hr] at hm hG
          dsimp only at hG
          obtain ⟨u1, u2⟩ := rdL_up HUp.out hq hr
          obtain ⟨x0, x1, x2, x3, x4, rfl, hFv⟩ := hm
          obtain ⟨jo, jc, ko, kc, hv, hrest⟩ := id hFv
          simp only [Value.agg.injEq, Array.mk.injEq, List.cons.injEq, and_true] at hv
          obtain ⟨rfl, rfl, rfl, rfl, rfl⟩ := hv
          clear hrest
          have hA2 := HS3.out.1
          have hT : InD (rowD w.heap.size (.slice io k cap)) w3 (h + 1) T (.agg #[.int .i64 T.kind, .string T.num, .string T.text, .slice jo T.items.length jc, .slice ko T.keys.length kc]) := InD.keep (Nat.le_refl _) (fun b _ _ => rfl) (fun b hb _ => ⟨by have h1 : W2.heap.size ≤ b := hb; have h2 := HS2.out.1.ll; omega, fun e => by have h1 := (own_low HS2.out.1.own e).2; have h2 : W2.heap.size ≤ b := hb; omega⟩) (InD.iff.2 hFv)
          have hA3 := hA2.low (below1 w3 (.cells #[.int .i64 T.kind, .string T.num, .string T.text, .slice jo T.items.length jc, .slice ko T.keys.length kc, .int .i64 (q2 : Int), .int .i64 0] 72))
          have hT3 := InD.keep (below1 w3 (.cells #[.int .i64 T.kind, .string T.num, .string T.text, .slice jo T.items.length jc, .slice ko T.keys.length kc, .int .i64 (q2 : Int), .int .i64 0] 72)).size (fun b _ hl => (below1 w3 (.cells #[.int .i64 T.kind, .string T.num, .string T.text, .slice jo T.items.length jc, .slice ko T.keys.length kc, .int .i64 (q2 : Int), .int .i64 0] 72)).block b hl) (fun b hb _ => hb) hT
          have HAT := Hid.mk (And.intro hA3 hT3)
          have hown := hA2.own
          have hnw := heap_alloc_new (w3.alloc (.cells #[.int .i64 T.kind, .string T.num, .string T.text, .slice jo T.items.length jc, .slice ko T.keys.length kc, .int .i64 (q2 : Int), .int .i64 0] 72)) (.cells #[.int .i64 T.kind, .string T.num, .string T.text, .slice jo T.items.length jc, .slice ko T.keys.length kc] 27)
          rw [World.size_alloc] at hnw
          have hlo2 : w.heap.size ≤ w3.heap.size := hA2.ll
          have hkk : k ≤ 1048576 := by have h1 := hA2.len; have h2 := HFit.out; omega
          have HG2 := Hid.mk hG
          have HQ := Hid.mk u1
          clear hr hG hFv hT hA3 hT3 hb3 HG1 u1 hA2
          unfold ans5
          go_wp2_with (at_builtin; refine wpList_append_own_at _ (by rfl) _ _ 24 (by rfl) w.heap.size 27 i0 (.agg #[.int .i64 0, .string ⟨#[]⟩, .string ⟨#[]⟩, .slice none 0 0, .slice none 0 0]) 5 88 Tryz.underlying24 hi0 hz0 hz1 hz2 rfl (by decide) _ _ _ (by rfl) ((hown.alloc _).alloc _) ⟨w3.heap.size + 1, 0, none⟩ 1 1 [.int .i64 T.kind, .string T.num, .string T.text, .slice jo T.items.length jc, .slice ko T.keys.length kc] (by rfl) (by rfl) (World.news_of_block (cs := #[.int .i64 T.kind, .string T.num, .string T.text, .slice jo T.items.length jc, .slice ko T.keys.length kc]) (fr := (0, 0)) hnw) (by simp [Value.oneCell']) (by unfold maxLen; omega) (by omega) (by simp; omega) ?_)
          intro v' w4 hown4 hgrow4 hnil4 hat4
          obtain ⟨g, cap', hv'⟩ := own_succR hown4
          subst hv'
          obtain ⟨hA5, hk5⟩ := RwC.app HAT.out.1 HAT.out.2 hown4 hgrow4 (by rw [World.size_alloc, World.size_alloc]; exact hat4)
          have hab : w4.heap[w3.heap.size]? = some (.cells #[.int .i64 T.kind, .string T.num, .string T.text, .slice jo T.items.length jc, .slice ko T.keys.length kc, .int .i64 (q2 : Int), .int .i64 0] 72 (0, 0)) := (hk5 _ (by simp) (fun e => by have h1 := (own_low hown e).2; omega)).trans (heap_alloc_new w3 _)
          have q55 := (box7_cells hab).2.2.2.2.2.1
          have HS5 : Hid (RwC w.heap.size h (k + 1) (some ⟨g, 0, none⟩) cap' (cUp k c (.int .i64 T.kind) (.string T.num) (.string T.text) (.slice jo T.items.length jc) (.slice ko T.keys.length kc)) (xs ++ [T]) w4 ∧ Below w.heap.size w w4) := by
            refine ⟨hA5, ?_⟩
            have h1 := HS3.out.2.alloc HS3.out.2.size (.cells #[.int .i64 T.kind, .string T.num, .string T.text, .slice jo T.items.length jc, .slice ko T.keys.length kc, .int .i64 (q2 : Int), .int .i64 0] 72)
            have h2 := h1.alloc h1.size (.cells #[.int .i64 T.kind, .string T.num, .string T.text, .slice jo T.items.length jc, .slice ko T.keys.length kc] 27)
            exact h2.grown hgrow4 (by simp; omega) (fun r e => (own_low hown e).1)
          have hag : w3.heap.size < w4.heap.size := (Array.getElem?_eq_some_iff.1 hab).1
          clear hA5 hk5 hab hgrow4 hat4 hown4 hnil4 hown hnw
          go_wp2_with fail
          go_roundw
          case rel => exact ⟨f, xs ++ [T], q2, k + 1, _, _, _, u2, rfl, rfl, (by show s.size < q2 + f; have := HF.out; have := HQ.out; omega), HS5, HG2, (by show (xs ++ [T]).length ≤ q2; rw [List.length_append]; show xs.length + 1 ≤ q2; have := HFit.out; have := HQ.out; omega)⟩
          case measure =>
            have := HQ.out
            simp [intOf]
            omega
      · have hsb : (((sg : Nat) : Int) == 36) = false := by rw [beq_eq_false_iff_ne]; omega
        have hsn : ¬ ((sg : Nat) : Int) = 36 := by omega
        clear hs1
        go_wp2_with fail
        generalize hW2 : w1.alloc (.cells #[.int .u8 (sg : Int), .int .i64 (a : Int), .int .i64 (z : Int), .string ⟨tx.toArray⟩, .int .i64 0] 69) = W2
        have hb2 : Below w1.heap.size w1 W2 := by rw [← hW2]; exact below1 w1 _
        have HS2 : Hid (RwC w.heap.size h k io cap c xs W2 ∧ Below w.heap.size w W2) := ⟨HS1.out.1.low hb2, HS1.out.2.trans (hb2.mono HS1.out.2.size)⟩
        clear hb2 HS1 hW2
        refine (HRd.out q _ hq).mono ?_
        rintro e w3 ⟨hb3, hm⟩
        have HS3 : Hid (RwC w.heap.size h k io cap c xs w3 ∧ Below w.heap.size w w3) := ⟨HS2.out.1.low hb3, HS2.out.2.trans (hb3.mono HS2.out.2.size)⟩
        have hG := HG1.out
        cases hr : rdL s.data.toList vl q with
        | bad er q2 =>
          rw [hr] at hm hG
          obtain ⟨h0, rfl⟩ := hm
          have HR1 : Hid ((xs, er, q2) = R) := hG
          have H0 := Hid.mk h0
          have hcb2 : (((er : Nat) : Int) == 0) = false := by rw [beq_eq_false_iff_ne]; omega
          have hcn2 : ¬ ((er : Nat) : Int) = 0 := by omega
          clear hr hG h0 hb3 HG1
          unfold bad5 ans5
          go_wp2_with fail
          go_region
          all_goals go_wp2_with fail
          all_goals refine bodyPost_ret (v := .tuple #[.slice (some ⟨w3.heap.size + 1, 0, none⟩) 0 0, .int .i64 (er : Int), .int .i64 (q2 : Int), .slice io k cap]) (by simp [results, Tryz.results10, go_sem]) rfl ?_
          all_goals rw [← HR1.out]
          all_goals have hX := ((below1 w3 (.cells #[.int .i64 0, .string ⟨#[]⟩, .string ⟨#[]⟩, .slice none 0 0, .slice none 0 0, .int .i64 (q2 : Int), .int .i64 (er : Int)] 72)).alloc (by simp) (.cells #[] 27)).drew
          all_goals exact ⟨HS3.out.2.trans (hX.mono HS3.out.2.size), k, io, cap, c, HS3.out.1.low hX, .inr ⟨H0.out, _, rfl⟩⟩
        | ok T q2 =>
          rw [hr] at hm hG
          dsimp only at hG
          obtain ⟨u1, u2⟩ := rdL_up HUp.out hq hr
          obtain ⟨x0, x1, x2, x3, x4, rfl, hFv⟩ := hm
          obtain ⟨jo, jc, ko, kc, hv, hrest⟩ := id hFv
          simp only [Value.agg.injEq, Array.mk.injEq, List.cons.injEq, and_true] at hv
          obtain ⟨rfl, rfl, rfl, rfl, rfl⟩ := hv
          clear hrest
          have hA2 := HS3.out.1
          have hT : InD (rowD w.heap.size (.slice io k cap)) w3 (h + 1) T (.agg #[.int .i64 T.kind, .string T.num, .string T.text, .slice jo T.items.length jc, .slice ko T.keys.length kc]) := InD.keep (Nat.le_refl _) (fun b _ _ => rfl) (fun b hb _ => ⟨by have h1 : W2.heap.size ≤ b := hb; have h2 := HS2.out.1.ll; omega, fun e => by have h1 := (own_low HS2.out.1.own e).2; have h2 : W2.heap.size ≤ b := hb; omega⟩) (InD.iff.2 hFv)
          have hA3 := hA2.low (below1 w3 (.cells #[.int .i64 T.kind, .string T.num, .string T.text, .slice jo T.items.length jc, .slice ko T.keys.length kc, .int .i64 (q2 : Int), .int .i64 0] 72))
          have hT3 := InD.keep (below1 w3 (.cells #[.int .i64 T.kind, .string T.num, .string T.text, .slice jo T.items.length jc, .slice ko T.keys.length kc, .int .i64 (q2 : Int), .int .i64 0] 72)).size (fun b _ hl => (below1 w3 (.cells #[.int .i64 T.kind, .string T.num, .string T.text, .slice jo T.items.length jc, .slice ko T.keys.length kc, .int .i64 (q2 : Int), .int .i64 0] 72)).block b hl) (fun b hb _ => hb) hT
          have HAT := Hid.mk (And.intro hA3 hT3)
          have hown := hA2.own
          have hnw := heap_alloc_new (w3.alloc (.cells #[.int .i64 T.kind, .string T.num, .string T.text, .slice jo T.items.length jc, .slice ko T.keys.length kc, .int .i64 (q2 : Int), .int .i64 0] 72)) (.cells #[.int .i64 T.kind, .string T.num, .string T.text, .slice jo T.items.length jc, .slice ko T.keys.length kc] 27)
          rw [World.size_alloc] at hnw
          have hlo2 : w.heap.size ≤ w3.heap.size := hA2.ll
          have hkk : k ≤ 1048576 := by have h1 := hA2.len; have h2 := HFit.out; omega
          have HG2 := Hid.mk hG
          have HQ := Hid.mk u1
          clear hr hG hFv hT hA3 hT3 hb3 HG1 u1 hA2
          unfold ans5
          go_wp2_with (at_builtin; refine wpList_append_own_at _ (by rfl) _ _ 24 (by rfl) w.heap.size 27 i0 (.agg #[.int .i64 0, .string ⟨#[]⟩, .string ⟨#[]⟩, .slice none 0 0, .slice none 0 0]) 5 88 Tryz.underlying24 hi0 hz0 hz1 hz2 rfl (by decide) _ _ _ (by rfl) ((hown.alloc _).alloc _) ⟨w3.heap.size + 1, 0, none⟩ 1 1 [.int .i64 T.kind, .string T.num, .string T.text, .slice jo T.items.length jc, .slice ko T.keys.length kc] (by rfl) (by rfl) (World.news_of_block (cs := #[.int .i64 T.kind, .string T.num, .string T.text, .slice jo T.items.length jc, .slice ko T.keys.length kc]) (fr := (0, 0)) hnw) (by simp [Value.oneCell']) (by unfold maxLen; omega) (by omega) (by simp; omega) ?_)
          intro v' w4 hown4 hgrow4 hnil4 hat4
          obtain ⟨g, cap', hv'⟩ := own_succR hown4
          subst hv'
          obtain ⟨hA5, hk5⟩ := RwC.app HAT.out.1 HAT.out.2 hown4 hgrow4 (by rw [World.size_alloc, World.size_alloc]; exact hat4)
          have hab : w4.heap[w3.heap.size]? = some (.cells #[.int .i64 T.kind, .string T.num, .string T.text, .slice jo T.items.length jc, .slice ko T.keys.length kc, .int .i64 (q2 : Int), .int .i64 0] 72 (0, 0)) := (hk5 _ (by simp) (fun e => by have h1 := (own_low hown e).2; omega)).trans (heap_alloc_new w3 _)
          have q55 := (box7_cells hab).2.2.2.2.2.1
          have HS5 : Hid (RwC w.heap.size h (k + 1) (some ⟨g, 0, none⟩) cap' (cUp k c (.int .i64 T.kind) (.string T.num) (.string T.text) (.slice jo T.items.length jc) (.slice ko T.keys.length kc)) (xs ++ [T]) w4 ∧ Below w.heap.size w w4) := by
            refine ⟨hA5, ?_⟩
            have h1 := HS3.out.2.alloc HS3.out.2.size (.cells #[.int .i64 T.kind, .string T.num, .string T.text, .slice jo T.items.length jc, .slice ko T.keys.length kc, .int .i64 (q2 : Int), .int .i64 0] 72)
            have h2 := h1.alloc h1.size (.cells #[.int .i64 T.kind, .string T.num, .string T.text, .slice jo T.items.length jc, .slice ko T.keys.length kc] 27)
            exact h2.grown hgrow4 (by simp; omega) (fun r e => (own_low hown e).1)
          have hag : w3.heap.size < w4.heap.size := (Array.getElem?_eq_some_iff.1 hab).1
          clear hA5 hk5 hab hgrow4 hat4 hown4 hnil4 hown hnw
          go_wp2_with fail
          go_roundw
          case rel => exact ⟨f, xs ++ [T], q2, k + 1, _, _, _, u2, rfl, rfl, (by show s.size < q2 + f; have := HF.out; have := HQ.out; omega), HS5, HG2, (by show (xs ++ [T]).length ≤ q2; rw [List.length_append]; show xs.length + 1 ≤ q2; have := HFit.out; have := HQ.out; omega)⟩
          case measure =>
            have := HQ.out
            simp [intOf]
            omega
end Go.Proofs.YtcbngdkekdhfeaaGreatDoor
