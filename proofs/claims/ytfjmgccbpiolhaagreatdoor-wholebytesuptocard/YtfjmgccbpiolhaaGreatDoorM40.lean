import Derived.Test.YtfjmgccbpiolhaaGreatDoorM39
import Derived.Test.YtfjmgccbpiolhaaGreatDoorM37
import Derived.Deep.RegionHeld3
namespace Go.Proofs.YtfjmgccbpiolhaaGreatDoor
open Go.RowKit Go.Shelf
set_option linter.unusedVariables false
set_option linter.unusedSimpArgs false

theorem loopL_up {σ : Type} {l : List UInt8} {cl : Nat} {pt : σ → Tok → Nat → Rd σ} (hpt : ∀ x t p y q, p ≤ l.length → pt x t p = .ok y q → p ≤ q ∧ q ≤ l.length) : ∀ (f : Nat) (x y : σ) (p q : Nat), p ≤ l.length → loopL l cl pt f x p = .ok y q → p ≤ q ∧ q ≤ l.length := by
  intro f
  induction f with
  | zero => intro x y p q _ h; cases h
  | succ f ih =>
    intro x y p q hp h
    unfold loopL at h
    split at h
    · cases h
    · next t p1 hm =>
      obtain ⟨a1, a2⟩ := mustL_up hp hm
      split at h
      · injection h with e1 e2
        omega
      · split at h
        · split at h
          · cases h
          · next t2 p2 hm2 =>
            obtain ⟨b1, b2⟩ := mustL_up a2 hm2
            split at h
            · cases h
            · next y2 p3 hpp =>
              obtain ⟨c1, c2⟩ := hpt _ _ _ _ _ b2 hpp
              obtain ⟨d1, d2⟩ := ih _ _ _ _ c2 h
              omega
        · cases h
theorem rowL_up {σ : Type} {l : List UInt8} {cl : Nat} {pt : σ → Tok → Nat → Rd σ} (hpt : ∀ x t p y q, p ≤ l.length → pt x t p = .ok y q → p ≤ q ∧ q ≤ l.length) {x y : σ} {p q : Nat} (hp : p ≤ l.length) (h : rowL l cl pt x p = .ok y q) : p ≤ q ∧ q ≤ l.length := by
  unfold rowL at h
  split at h
  · cases h
  · next t p1 hm =>
    obtain ⟨a1, a2⟩ := mustL_up hp hm
    split at h
    · injection h with e1 e2
      omega
    · split at h
      · cases h
      · next y2 p2 hpp =>
        obtain ⟨c1, c2⟩ := hpt _ _ _ _ _ a2 hpp
        obtain ⟨d1, d2⟩ := loopL_up hpt _ _ _ _ _ c2 h
        omega

def valL (l : List UInt8) (ob : (Tok → Nat → Rd VT) → Nat → Rd VT) : Nat → Nat → Tok → Nat → Rd VT
  | 0, d, t, p => valAt d (.bad 0 0) (.bad 0 0) t p
  | f + 1, d, t, p => valAt d (arrL l (valL l ob f (d + 1)) p) (ob (valL l ob f (d + 1)) p) t p
structure ObjOk (s : ByteArray) (I : Nat) (ob : (Tok → Nat → Rd VT) → Nat → Rd VT) : Prop where
  call : ∀ (H d : Nat) (vl : Tok → Nat → Rd VT), d ≤ 64 → ValD s I H (d + 1) vl → ValUp s vl → ∀ (p : Nat) (u : World), p ≤ s.size → InAt u I s p → ErrIn u → Calls Tryz.prog 125 #[.pointer (some ⟨I, 0, none⟩), .int .i64 (d : Int)] u fun e w' => VlR I s (H + 1) u (ob vl p) e w'
  up : ∀ vl, ValUp s vl → ∀ (p : Nat) (T : VT) (q : Nat), p ≤ s.size → ob vl p = .ok T q → p ≤ q ∧ q ≤ s.size
theorem leafL_up {t : Tok} {p q : Nat} {T : VT} (h : leafL t p = .ok T q) : q = p := by
  unfold leafL at h
  repeat' split at h
  all_goals first | (injection h with e1 e2; exact e2.symm) | cases h
theorem arrL_up {s : ByteArray} {vl : Tok → Nat → Rd VT} (hv : ValUp s vl) {p q : Nat} {T : VT} (hp : p ≤ s.size) (h : arrL s.data.toList vl p = .ok T q) : p ≤ q ∧ q ≤ s.size := by
  unfold arrL at h
  split at h
  · next xs q2 hr =>
    injection h with e1 e2
    subst e2
    refine rowL_up (l := s.data.toList) (fun x t p y q h1 h2 => ?_) hp hr
    unfold aPt at h2
    split at h2
    · next v q3 hv3 =>
      injection h2 with e1 e2
      subst e2
      exact hv _ _ _ _ h1 hv3
    · cases h2
  · cases h
theorem valAt_up {s : ByteArray} {d : Nat} {ra ro : Rd VT} {t : Tok} {p q : Nat} {T : VT} (hp : p ≤ s.size) (ha : ∀ T q, ra = .ok T q → p ≤ q ∧ q ≤ s.size) (ho : ∀ T q, ro = .ok T q → p ≤ q ∧ q ≤ s.size) (h : valAt d ra ro t p = .ok T q) : p ≤ q ∧ q ≤ s.size := by
  unfold valAt at h
  split at h
  · split at h
    · exact ha _ _ h
    · cases h
  · split at h
    · split at h
      · exact ho _ _ h
      · cases h
    · have := leafL_up h
      omega
theorem valL_up {s : ByteArray} {I : Nat} {ob : (Tok → Nat → Rd VT) → Nat → Rd VT} (hO : ObjOk s I ob) : ∀ (f d : Nat), ValUp s (valL s.data.toList ob f d)
  | 0, d => fun t p T q hp h => by
    unfold valL at h
    exact valAt_up hp (fun _ _ h => by cases h) (fun _ _ h => by cases h) h
  | f + 1, d => fun t p T q hp h => by
    unfold valL at h
    exact valAt_up hp (fun _ _ h => arrL_up (valL_up hO f (d + 1)) hp h) (fun _ _ h => hO.up _ (valL_up hO f (d + 1)) _ _ _ hp h) h
theorem w_valD {s : ByteArray} (ss : s.size ≤ 1073741824) {I : Nat} {ob : (Tok → Nat → Rd VT) → Nat → Rd VT} (hO : ObjOk s I ob) (gI : I ≠ 4) : ∀ (f d : Nat), f + d = 65 → ValD s I f d (valL s.data.toList ob f d) := by
  have hTx : ∀ p t p1, mustL s.data.toList p = .ok t p1 → t.text.length ≤ 140737488355328 := fun p t p1 h => by
    have h1 := mustL_text h
    have h2 : s.data.toList.length = s.size := rfl
    omega
  intro f
  induction f with
  | zero =>
    intro d hd t p u hp ht hI hE
    unfold valL valAt
    by_cases h3 : t.kind = 3
    · rw [if_pos h3, if_neg (by omega)]
      exact w_value_deep3 s I d 0 (by omega) (by omega) t h3 p u
    · rw [if_neg h3]
      by_cases h1 : t.kind = 1
      · rw [if_pos h1, if_neg (by omega)]
        exact w_value_deep1 s I d 0 (by omega) (by omega) t h1 p u
      · rw [if_neg h1]
        exact w_value_leaf s I d 0 t p u hI ht h3 h1
  | succ f ih =>
    intro d hd t p u hp ht hI hE
    have hv := ih (d + 1) (by omega)
    have hu := valL_up hO f (d + 1)
    unfold valL valAt
    by_cases h3 : t.kind = 3
    · rw [if_pos h3, if_pos (by omega)]
      exact w_value_arr s I d (f + 1) (by omega) t h3 p u hI _ (fun v h1 h2 => w_array s ss I f d p (by omega) hp _ hv hu hTx v h1 (hE.keep h2) gI)
    · rw [if_neg h3]
      by_cases h1 : t.kind = 1
      · rw [if_pos h1, if_pos (by omega)]
        exact w_value_obj s I d (f + 1) (by omega) t h1 p u hI _ (fun v h1 h2 => hO.call f d _ (by omega) hv hu p v hp h1 (hE.keep h2))
      · rw [if_neg h1]
        exact w_value_leaf s I d (f + 1) t p u hI ht h3 h1
end Go.Proofs.YtfjmgccbpiolhaaGreatDoor
namespace Go.Proofs.YtfjmgccbpiolhaaGreatDoor
open Go.RowKit Go.Shelf
set_option linter.unusedVariables false
set_option linter.unusedSimpArgs false
attribute [local go_sem] Oper.semAt_some

theorem own_lowR {w : World} {lo : Nat} {e : TypeId} {size : Nat} {v : Value} {n : Nat} {xs : List Value} (h : w.ownsRow lo e size v n xs) {b : Nat} (hb : v.ownBlock = some b) : lo ≤ b ∧ b < w.heap.size := by
  rcases h.2 with ⟨h1, _⟩ | ⟨g2, c2, cur, h1, h2, h3, _⟩
  · rw [h1] at hb; cases hb
  · rw [h1] at hb
    simp [Value.ownBlock] at hb
    subst hb
    exact ⟨h2, (Array.getElem?_eq_some_iff.1 h3).1⟩

structure M1R (lo Vb k : Nat) (v0 : Value) (xs : List Value) (w w' : World) : Prop where
  os : w'.os = w.os
  tape : w'.tape = w.tape
  output : w'.output = w.output
  size : w.heap.size ≤ w'.heap.size
  block : ∀ b, b < w.heap.size → b ≠ Vb → v0.ownBlock ≠ some b → w'.heap[b]? = w.heap[b]?
  row : ∃ g cap, w'.heap[Vb]? = some (.cells #[.slice (some ⟨g, 0, none⟩) (k + 1) cap] 22 (0, 0)) ∧ w'.ownsRow lo 49 5 (.slice (some ⟨g, 0, none⟩) (k + 1) cap) (k + 1) xs ∧ (v0.ownBlock = some g ∨ w.heap.size ≤ g)
theorem m1_end {w W1 w1 wz : World} {lo Vb k g cap : Nat} {v0 : Value} {c : Nat → Fin 5 → Value} {z0 z1 z2 z3 z4 x0 x1 x2 x3 x4 y : Value} (hb : Below w.heap.size w W1) (hl : lo ≤ w.heap.size) (hVo : Vb < lo) (hgl : lo ≤ g)
    (hown : w1.ownsRow lo 49 5 (.slice (some ⟨g, 0, none⟩) (k + 1) cap) (k + 1) (flat c k ++ [z0, z1, z2, z3, z4])) (hgrow : W1.grownBy w1 v0.ownBlock) (hat : v0.ownBlock = some g ∨ w.heap.size ≤ g) (hv : w1.heap[Vb]? = some (.cells #[y] 22 (0, 0)))
    (hz : wz = (((((w1.setCell ⟨g, k * 5, none⟩ x0).setCell ⟨g, k * 5 + 1, none⟩ x1).setCell ⟨g, k * 5 + 2, none⟩ x2).setCell ⟨g, k * 5 + 3, none⟩ x3).setCell ⟨g, k * 5 + 4, none⟩ x4).setCell ⟨Vb, 0, none⟩ (.slice (some ⟨g, 0, none⟩) (k + 1) cap) ∨
      wz = (((((w1.setCell ⟨Vb, 0, none⟩ (.slice (some ⟨g, 0, none⟩) (k + 1) cap)).setCell ⟨g, k * 5, none⟩ x0).setCell ⟨g, k * 5 + 1, none⟩ x1).setCell ⟨g, k * 5 + 2, none⟩ x2).setCell ⟨g, k * 5 + 3, none⟩ x3).setCell ⟨g, k * 5 + 4, none⟩ x4) :
    M1R lo Vb k v0 (flat c k ++ [x0, x1, x2, x3, x4]) w wz := by
  have hbs := hb.size
  have hgs := hgrow.size
  have kk : ∀ b, b < w.heap.size → v0.ownBlock ≠ some b → w1.heap[b]? = w.heap[b]? := fun b h1 h2 => (hgrow.block b (by omega) (fun e => h2 e.symm)).trans (hb.block b h1)
  have gne : ∀ b, b < w.heap.size → v0.ownBlock ≠ some b → b ≠ g := fun b h1 h2 e => by
    subst e
    rcases hat with h | h
    · exact h2 h
    · omega
  have hne : Vb ≠ g := by omega
  rcases hz with hz | hz
  · refine ⟨?_, ?_, ?_, ?_, fun b h1 h2 h3 => ?_, g, cap, ?_, ?_, hat⟩
    · rw [hz]; simp only [sC_os]; exact hgrow.os.trans hb.os
    · rw [hz]; simp only [sC_tape]; exact hgrow.tape.trans hb.tape
    · rw [hz]; simp only [sC_output]; exact hgrow.output.trans hb.output
    · rw [hz]; simp; omega
    · have h4 := gne b h1 h3
      rw [hz, Below.heap_setCell _ _ _ _ h2, Below.heap_setCell _ _ _ _ h4, Below.heap_setCell _ _ _ _ h4, Below.heap_setCell _ _ _ _ h4, Below.heap_setCell _ _ _ _ h4, Below.heap_setCell _ _ _ _ h4]
      exact kk b h1 h3
    · rw [hz]
      refine rset (i := 0) (c := #[y]) _ ?_
      rw [Below.heap_setCell _ _ _ _ hne, Below.heap_setCell _ _ _ _ hne, Below.heap_setCell _ _ _ _ hne, Below.heap_setCell _ _ _ _ hne, Below.heap_setCell _ _ _ _ hne]
      exact hv
    · rw [hz]; exact ownsRow_setCell_below (own_set5 (flat_len c k) hown x0 x1 x2 x3 x4) (a := ⟨Vb, 0, none⟩) hVo _
  · refine ⟨?_, ?_, ?_, ?_, fun b h1 h2 h3 => ?_, g, cap, ?_, ?_, hat⟩
    · rw [hz]; simp only [sC_os]; exact hgrow.os.trans hb.os
    · rw [hz]; simp only [sC_tape]; exact hgrow.tape.trans hb.tape
    · rw [hz]; simp only [sC_output]; exact hgrow.output.trans hb.output
    · rw [hz]; simp; omega
    · have h4 := gne b h1 h3
      rw [hz, Below.heap_setCell _ _ _ _ h4, Below.heap_setCell _ _ _ _ h4, Below.heap_setCell _ _ _ _ h4, Below.heap_setCell _ _ _ _ h4, Below.heap_setCell _ _ _ _ h4, Below.heap_setCell _ _ _ _ h2]
      exact kk b h1 h3
    · rw [hz, Below.heap_setCell _ _ _ _ hne, Below.heap_setCell _ _ _ _ hne, Below.heap_setCell _ _ _ _ hne, Below.heap_setCell _ _ _ _ hne, Below.heap_setCell _ _ _ _ hne]
      exact rset (i := 0) (c := #[y]) _ hv
    · rw [hz]; exact own_set5 (flat_len c k) (ownsRow_setCell_below hown (a := ⟨Vb, 0, none⟩) hVo _) x0 x1 x2 x3 x4

set_option maxRecDepth 100000 in
set_option maxHeartbeats 3200000 in
theorem w_many1 (lo Vb k : Nat) (io : Option Addr) (cap : Nat) (c : Nat → Fin 5 → Value) (kd : Int) (nm tx : ByteArray) (jo : Option Addr) (N ic : Nat) (ko : Option Addr) (K kc : Nat) (w : World) (hk : k ≤ 1073741824) (hl : lo ≤ w.heap.size) (hVo : Vb < lo)
    (hV : w.heap[Vb]? = some (.cells #[.slice io k cap] 22 (0, 0))) (hrow : w.ownsRow lo 49 5 (.slice io k cap) k (flat c k)) :
    Calls Tryz.prog 55 #[.agg #[.int .i64 kd, .string nm, .string tx, .slice jo N ic, .slice ko K kc], .pointer (some ⟨Vb, 0, none⟩)] w fun e w' => e = .returned (.bool true) ∧ M1R lo Vb k (.slice io k cap) (flat c k ++ [.int .i64 kd, .string nm, .string tx, .slice jo N ic, .slice ko K kc]) w w' := by
  obtain ⟨i0, hi0, hz0, hz1, hz2⟩ := info_parts Tryz.infoVr
  have hVl : Vb < w.heap.size := (Array.getElem?_eq_some_iff.1 hV).1
  have cV : w.cell? ⟨Vb, 0, none⟩ = some (.slice io k cap) := by rw [cell_of_row _ _ _ _ _ _ hV]; rfl
  have fV : w.frozen? ⟨Vb, 0, none⟩ = false := frozen_rowT hV
  have mixed : Tryz.prog.follows .mixedOrders = true := by kernel_rfl
  have hnb : k + 1 ≤ maxLen := by unfold maxLen; omega
  have hkk : (k : Int) < (k : Int) + 1 := by omega
  have HRow := Hid.mk hrow
  have HOb : Hid (∀ g', (Value.slice io k cap).ownBlock = some g' → lo ≤ g') := fun g' hg => by
    rcases hrow.2 with ⟨h1, _⟩ | ⟨g2, c2, cur, h1, h2, _⟩
    · rw [h1] at hg; cases hg
    · rw [h1] at hg; simp [Value.ownBlock] at hg; omega
  have HVb := Hid.mk hV
  have HNw : Hid ((World.alloc (World.drew (w.alloc (.cells #[.int .i64 kd, .string nm, .string tx, .slice jo N ic, .slice ko K kc] 49))) (.cells #[.int .i64 0, .string ⟨#[]⟩, .string ⟨#[]⟩, .slice none 0 0, .slice none 0 0] 49)).heap[w.heap.size + 1]? = some (.cells #[.int .i64 0, .string ⟨#[]⟩, .string ⟨#[]⟩, .slice none 0 0, .slice none 0 0] 49 (0, 0))) := by
    have h := heap_alloc_new (World.drew (w.alloc (.cells #[.int .i64 kd, .string nm, .string tx, .slice jo N ic, .slice ko K kc] 49))) (.cells #[.int .i64 0, .string ⟨#[]⟩, .string ⟨#[]⟩, .slice none 0 0, .slice none 0 0] 49)
    rwa [show (World.drew (w.alloc (.cells #[.int .i64 kd, .string nm, .string tx, .slice jo N ic, .slice ko K kc] 49))).heap.size = w.heap.size + 1 from by show (w.alloc (.cells #[.int .i64 kd, .string nm, .string tx, .slice jo N ic, .slice ko K kc] 49)).heap.size = _; simp] at h
  clear hV hrow
  go_enter Tryz.func55, Tryz.ntmps55
  go_wp2_with fail
  have HS : Hid (∀ u : World, u.heap[w.heap.size]? = some (.cells #[.int .i64 kd, .string nm, .string tx, .slice jo N ic, .slice ko K kc] 49 (0, 0)) → (fun u => u.cell? ⟨w.heap.size, 0, none⟩ = some (.int .i64 kd) ∧ u.cell? ⟨w.heap.size, 1, none⟩ = some (.string nm) ∧ u.cell? ⟨w.heap.size, 2, none⟩ = some (.string tx) ∧ u.cell? ⟨w.heap.size, 3, none⟩ = some (.slice jo N ic) ∧ u.cell? ⟨w.heap.size, 4, none⟩ = some (.slice ko K kc)) u) := fun u h => ⟨(vbox_cells h).1, (vbox_cells h).2.1, (vbox_cells h).2.2.1, (vbox_cells h).2.2.2.1, (vbox_cells h).2.2.2.2.1⟩
  have HP0 : Hid ((World.drew (w.alloc (.cells #[.int .i64 kd, .string nm, .string tx, .slice jo N ic, .slice ko K kc] 49))).heap[w.heap.size]? = some (.cells #[.int .i64 kd, .string nm, .string tx, .slice jo N ic, .slice ko K kc] 49 (0, 0))) := heap_alloc_new w (.cells #[.int .i64 kd, .string nm, .string tx, .slice jo N ic, .slice ko K kc] 49)
  have HP1 : Hid (((World.drew (w.alloc (.cells #[.int .i64 kd, .string nm, .string tx, .slice jo N ic, .slice ko K kc] 49))).alloc (.cells #[.int .i64 0, .string ⟨#[]⟩, .string ⟨#[]⟩, .slice none 0 0, .slice none 0 0] 49)).heap[w.heap.size]? = some (.cells #[.int .i64 kd, .string nm, .string tx, .slice jo N ic, .slice ko K kc] 49 (0, 0))) := (Below.heap_alloc _ _ _ (by show w.heap.size < (w.alloc (.cells #[.int .i64 kd, .string nm, .string tx, .slice jo N ic, .slice ko K kc] 49)).heap.size; simp)).trans HP0.out
  have oA : (w.alloc (.cells #[.int .i64 kd, .string nm, .string tx, .slice jo N ic, .slice ko K kc] 49)).cell? ⟨Vb, 0, none⟩ = some (.slice io k cap) := (World.cell?_of_block (a := ⟨Vb, 0, none⟩) (Below.heap_alloc w _ Vb hVl)).trans cV
  have oB : ((w.alloc (.cells #[.int .i64 kd, .string nm, .string tx, .slice jo N ic, .slice ko K kc] 49)).alloc (.cells #[.int .i64 0, .string ⟨#[]⟩, .string ⟨#[]⟩, .slice none 0 0, .slice none 0 0] 49)).cell? ⟨Vb, 0, none⟩ = some (.slice io k cap) := (World.cell?_of_block (a := ⟨Vb, 0, none⟩) (Below.heap_alloc _ _ Vb (by simp; omega))).trans oA
  refine wp_region_held_drew (S := (fun u => u.cell? ⟨w.heap.size, 0, none⟩ = some (.int .i64 kd) ∧ u.cell? ⟨w.heap.size, 1, none⟩ = some (.string nm) ∧ u.cell? ⟨w.heap.size, 2, none⟩ = some (.string tx) ∧ u.cell? ⟨w.heap.size, 3, none⟩ = some (.slice jo N ic) ∧ u.cell? ⟨w.heap.size, 4, none⟩ = some (.slice ko K kc))) (by kernel_rfl) (HS.out _ HP0.out) (fun hHeld => ?_)
  refine wpAnyH_take (i := 1) (oi := _) (v := .agg #[.int .i64 kd, .string nm, .string tx, .slice jo N ic, .slice ko K kc]) rfl (by kernel_rfl) (by kernel_rfl) (by kernel_rfl) (fun _ _ _ h => h) (Or.inl ⟨by rfl, ?_⟩) (by assumption) ?_
  · intro w hSw
    go_simp
  try simp only [Act.put, List.setIfInBounds_toArray, List.set_cons_zero, List.set_cons_succ]
  refine wpAnyH_ready (rs := [0, 3]) (by kernel_rfl) (by simp) ?_
  refine AllReadyH.cons (o := _) rfl (fun KK hK => ?_) ?_
  · go_simp
    refine hK.out _ _ (HS.out _ HP0.out) (fun hHeld => ?_)
    clear hK KK
    try simp only [Act.put, List.setIfInBounds_toArray, List.set_cons_zero, List.set_cons_succ]
    refine wpAnyH_take (i := 2) (oi := _) (v := .int .i64 (k : Int)) rfl (by kernel_rfl) (by kernel_rfl) (by kernel_rfl) (fun _ _ _ h => h) (Or.inl ⟨by rfl, ?_⟩) (by assumption) ?_
    · intro w hSw
      go_simp
    try simp only [Act.put, List.setIfInBounds_toArray, List.set_cons_zero, List.set_cons_succ]
    refine wpAnyH_ready (rs := [3]) (by kernel_rfl) (by simp) ?_
    refine AllReadyH.cons (o := _) rfl (fun KK hK => ?_) AllReadyH.nil
    go_simp
    refine hK.out _ _ (HS.out _ HP1.out) (fun hHeld => ?_)
    clear hK KK
    try simp only [Act.put, List.setIfInBounds_toArray, List.set_cons_zero, List.set_cons_succ]
    refine wpAnyH_ready (rs := [4]) (by kernel_rfl) (by simp) ?_
    refine AllReadyH.cons (o := _) rfl (fun KK hK => ?_) AllReadyH.nil
    refine step_append_lies _ (by rfl) _ _ _ (by rfl) lo 49 i0 (.agg #[.int .i64 0, .string ⟨#[]⟩, .string ⟨#[]⟩, .slice none 0 0, .slice none 0 0]) 5 88 Tryz.underlying22 hi0 hz0 hz1 hz2 rfl (by omega) (.slice io k cap) k _ (by rfl) (((HRow.out.alloc (.cells #[.int .i64 kd, .string nm, .string tx, .slice jo N ic, .slice ko K kc] 49)).drew).alloc (.cells #[.int .i64 0, .string ⟨#[]⟩, .string ⟨#[]⟩, .slice none 0 0, .slice none 0 0] 49)) ⟨w.heap.size + 1, 0, none⟩ 1 1 [.int .i64 0, .string ⟨#[]⟩, .string ⟨#[]⟩, .slice none 0 0, .slice none 0 0] (by rfl) (by rfl) (World.news_of_block (cs := #[.int .i64 0, .string ⟨#[]⟩, .string ⟨#[]⟩, .slice none 0 0, .slice none 0 0]) (t := 49) (fr := (0, 0)) HNw.out) (by simp [Value.oneCell']) (by omega) hnb (by omega) (by simp; omega) (w.heap.size + 1 + 1) (by simp) ?_
    intro g' cap' w1 hown1 hgrow hat hlt1
    obtain ⟨z0, z1, z2, z3, z4, zf⟩ := app_cells hown1
    have zf0 := zf (k * 5)
    have zf1 := zf (k * 5 + 1)
    have zf2 := zf (k * 5 + 2)
    have zf3 := zf (k * 5 + 3)
    have zf4 := zf (k * 5 + 4)
    have hgl : lo ≤ g' := (by rcases hat with h | h; exact HOb.out g' h; omega)
    have hv1 := (hgrow.block Vb (by simp; omega) (fun e => by have := HOb.out Vb e.symm; omega)).trans ((Below.heap_alloc (World.drew (w.alloc (.cells #[.int .i64 kd, .string nm, .string tx, .slice jo N ic, .slice ko K kc] 49))) (.cells #[.int .i64 0, .string ⟨#[]⟩, .string ⟨#[]⟩, .slice none 0 0, .slice none 0 0] 49) Vb (by show Vb < (w.alloc (.cells #[.int .i64 kd, .string nm, .string tx, .slice jo N ic, .slice ko K kc] 49)).heap.size; simp; omega)).trans ((Below.heap_alloc w (.cells #[.int .i64 kd, .string nm, .string tx, .slice jo N ic, .slice ko K kc] 49) Vb hVl).trans HVb.out))
    have v1 : w1.cell? ⟨Vb, 0, none⟩ = some (.slice io k cap) := (by rw [cell_of_row _ _ _ _ _ _ hv1]; rfl)
    have vf : w1.frozen? ⟨Vb, 0, none⟩ = false := frozen_rowT hv1
    have HQ := Hid.mk ((hgrow.block w.heap.size (by simp; omega) (fun e => by have := (own_lowR HRow.out e.symm).2; omega)).trans HP1.out)
    have HNe : Hid (w.heap.size ≠ g' ∧ w.heap.size ≠ Vb) := ⟨by rcases hat with h | h; (have := (own_lowR HRow.out h).2; omega); omega, by omega⟩
    have HEnd := Hid.mk (And.intro hown1 (And.intro hgrow (And.intro hat (And.intro hlt1 hv1))))
    have hVg : Vb < g' := (by omega)
    clear hown1 hgrow hat hlt1 hv1 zf
    refine hK.out _ _ (HS.out _ HQ.out) (fun hHeld => ?_)
    clear hK KK
    try simp only [Act.put, List.setIfInBounds_toArray, List.set_cons_zero, List.set_cons_succ]
    refine wpAnyH_take (i := 5) (oi := _) (v := (.pointer (some ⟨g', k * 5, none⟩))) rfl (by kernel_rfl) (by kernel_rfl) (by kernel_rfl) (fun _ _ _ h => h) (Or.inl ⟨by rfl, ?_⟩) (by assumption) ?_
    · intro w hSw
      go_simp
    try simp only [Act.put, List.setIfInBounds_toArray, List.set_cons_zero, List.set_cons_succ]
    refine wpAnyH_ready (rs := [6, 7]) (by kernel_rfl) (by simp) ?_
    refine AllReadyH.cons (o := _) rfl (fun KK hK => ?_) ?_
    · go_simp
      refine hK.out _ _ (HS.out _ ((Below.heap_setCell _ _ _ _ HNe.out.1).trans ((Below.heap_setCell _ _ _ _ HNe.out.1).trans ((Below.heap_setCell _ _ _ _ HNe.out.1).trans ((Below.heap_setCell _ _ _ _ HNe.out.1).trans ((Below.heap_setCell _ _ _ _ HNe.out.1).trans HQ.out)))))) (fun hHeld => ?_)
      clear hK KK
      try simp only [Act.put, List.setIfInBounds_toArray, List.set_cons_zero, List.set_cons_succ]
      refine wpAnyH_ready (rs := [7]) (by kernel_rfl) (by simp) ?_
      refine AllReadyH.cons (o := _) rfl (fun KK hK => ?_) AllReadyH.nil
      go_simp
      refine hK.out _ _ (HS.out _ ((Below.heap_setCell _ _ _ _ HNe.out.2).trans ((Below.heap_setCell _ _ _ _ HNe.out.1).trans ((Below.heap_setCell _ _ _ _ HNe.out.1).trans ((Below.heap_setCell _ _ _ _ HNe.out.1).trans ((Below.heap_setCell _ _ _ _ HNe.out.1).trans ((Below.heap_setCell _ _ _ _ HNe.out.1).trans HQ.out))))))) (fun hHeld => ?_)
      clear hK KK
      try simp only [Act.put, List.setIfInBounds_toArray, List.set_cons_zero, List.set_cons_succ]
      refine wpAnyH_done (by kernel_rfl) ?_ _
      go_wp2_with fail
      obtain ⟨hown1, hgrow, hat, hlt1, hv1⟩ := HEnd.out
      refine bodyPost_ret (v := .bool true) (by simp [results, Tryz.results55, go_sem]) rfl ⟨rfl, ?_⟩
      exact m1_end ((((below1 w _).drew)).alloc (by show w.heap.size ≤ (w.alloc _).heap.size; simp) _) hl hVo hgl hown1 hgrow (by rcases hat with h | h; exact .inl h; exact .inr (by omega)) hv1 (.inl rfl)
    refine AllReadyH.cons (o := _) rfl (fun KK hK => ?_) AllReadyH.nil
    go_simp
    refine hK.out _ _ (HS.out _ ((Below.heap_setCell _ _ _ _ HNe.out.2).trans HQ.out)) (fun hHeld => ?_)
    clear hK KK
    try simp only [Act.put, List.setIfInBounds_toArray, List.set_cons_zero, List.set_cons_succ]
    refine wpAnyH_ready (rs := [6]) (by kernel_rfl) (by simp) ?_
    refine AllReadyH.cons (o := _) rfl (fun KK hK => ?_) AllReadyH.nil
    go_simp
    refine hK.out _ _ (HS.out _ ((Below.heap_setCell _ _ _ _ HNe.out.1).trans ((Below.heap_setCell _ _ _ _ HNe.out.1).trans ((Below.heap_setCell _ _ _ _ HNe.out.1).trans ((Below.heap_setCell _ _ _ _ HNe.out.1).trans ((Below.heap_setCell _ _ _ _ HNe.out.1).trans ((Below.heap_setCell _ _ _ _ HNe.out.2).trans HQ.out))))))) (fun hHeld => ?_)
    clear hK KK
    try simp only [Act.put, List.setIfInBounds_toArray, List.set_cons_zero, List.set_cons_succ]
    refine wpAnyH_done (by kernel_rfl) ?_ _
    go_wp2_with fail
    obtain ⟨hown1, hgrow, hat, hlt1, hv1⟩ := HEnd.out
    refine bodyPost_ret (v := .bool true) (by simp [results, Tryz.results55, go_sem]) rfl ⟨rfl, ?_⟩
    exact m1_end ((((below1 w _).drew)).alloc (by show w.heap.size ≤ (w.alloc _).heap.size; simp) _) hl hVo hgl hown1 hgrow (by rcases hat with h | h; exact .inl h; exact .inr (by omega)) hv1 (.inr rfl)
  refine AllReadyH.cons (o := _) rfl (fun KK hK => ?_) AllReadyH.nil
  go_simp
  refine hK.out _ _ (HS.out _ HP1.out) (fun hHeld => ?_)
  clear hK KK
  try simp only [Act.put, List.setIfInBounds_toArray, List.set_cons_zero, List.set_cons_succ]
  refine wpAnyH_ready (rs := [0]) (by kernel_rfl) (by simp) ?_
  refine AllReadyH.cons (o := _) rfl (fun KK hK => ?_) AllReadyH.nil
  go_simp
  refine hK.out _ _ (HS.out _ HP1.out) (fun hHeld => ?_)
  clear hK KK
  try simp only [Act.put, List.setIfInBounds_toArray, List.set_cons_zero, List.set_cons_succ]
  refine wpAnyH_take (i := 2) (oi := _) (v := .int .i64 (k : Int)) rfl (by kernel_rfl) (by kernel_rfl) (by kernel_rfl) (fun _ _ _ h => h) (Or.inl ⟨by rfl, ?_⟩) (by assumption) ?_
  · intro w hSw
    go_simp
  try simp only [Act.put, List.setIfInBounds_toArray, List.set_cons_zero, List.set_cons_succ]
  refine wpAnyH_ready (rs := [4]) (by kernel_rfl) (by simp) ?_
  refine AllReadyH.cons (o := _) rfl (fun KK hK => ?_) AllReadyH.nil
  refine step_append_lies _ (by rfl) _ _ _ (by rfl) lo 49 i0 (.agg #[.int .i64 0, .string ⟨#[]⟩, .string ⟨#[]⟩, .slice none 0 0, .slice none 0 0]) 5 88 Tryz.underlying22 hi0 hz0 hz1 hz2 rfl (by omega) (.slice io k cap) k _ (by rfl) (((HRow.out.alloc (.cells #[.int .i64 kd, .string nm, .string tx, .slice jo N ic, .slice ko K kc] 49)).drew).alloc (.cells #[.int .i64 0, .string ⟨#[]⟩, .string ⟨#[]⟩, .slice none 0 0, .slice none 0 0] 49)) ⟨w.heap.size + 1, 0, none⟩ 1 1 [.int .i64 0, .string ⟨#[]⟩, .string ⟨#[]⟩, .slice none 0 0, .slice none 0 0] (by rfl) (by rfl) (World.news_of_block (cs := #[.int .i64 0, .string ⟨#[]⟩, .string ⟨#[]⟩, .slice none 0 0, .slice none 0 0]) (t := 49) (fr := (0, 0)) HNw.out) (by simp [Value.oneCell']) (by omega) hnb (by omega) (by simp; omega) (w.heap.size + 1 + 1) (by simp) ?_
  intro g' cap' w1 hown1 hgrow hat hlt1
  obtain ⟨z0, z1, z2, z3, z4, zf⟩ := app_cells hown1
  have zf0 := zf (k * 5)
  have zf1 := zf (k * 5 + 1)
  have zf2 := zf (k * 5 + 2)
  have zf3 := zf (k * 5 + 3)
  have zf4 := zf (k * 5 + 4)
  have hgl : lo ≤ g' := (by rcases hat with h | h; exact HOb.out g' h; omega)
  have hv1 := (hgrow.block Vb (by simp; omega) (fun e => by have := HOb.out Vb e.symm; omega)).trans ((Below.heap_alloc (World.drew (w.alloc (.cells #[.int .i64 kd, .string nm, .string tx, .slice jo N ic, .slice ko K kc] 49))) (.cells #[.int .i64 0, .string ⟨#[]⟩, .string ⟨#[]⟩, .slice none 0 0, .slice none 0 0] 49) Vb (by show Vb < (w.alloc (.cells #[.int .i64 kd, .string nm, .string tx, .slice jo N ic, .slice ko K kc] 49)).heap.size; simp; omega)).trans ((Below.heap_alloc w (.cells #[.int .i64 kd, .string nm, .string tx, .slice jo N ic, .slice ko K kc] 49) Vb hVl).trans HVb.out))
  have v1 : w1.cell? ⟨Vb, 0, none⟩ = some (.slice io k cap) := (by rw [cell_of_row _ _ _ _ _ _ hv1]; rfl)
  have vf : w1.frozen? ⟨Vb, 0, none⟩ = false := frozen_rowT hv1
  have HQ := Hid.mk ((hgrow.block w.heap.size (by simp; omega) (fun e => by have := (own_lowR HRow.out e.symm).2; omega)).trans HP1.out)
  have HNe : Hid (w.heap.size ≠ g' ∧ w.heap.size ≠ Vb) := ⟨by rcases hat with h | h; (have := (own_lowR HRow.out h).2; omega); omega, by omega⟩
  have HEnd := Hid.mk (And.intro hown1 (And.intro hgrow (And.intro hat (And.intro hlt1 hv1))))
  have hVg : Vb < g' := (by omega)
  clear hown1 hgrow hat hlt1 hv1 zf
  refine hK.out _ _ (HS.out _ HQ.out) (fun hHeld => ?_)
  clear hK KK
  try simp only [Act.put, List.setIfInBounds_toArray, List.set_cons_zero, List.set_cons_succ]
  refine wpAnyH_take (i := 5) (oi := _) (v := (.pointer (some ⟨g', k * 5, none⟩))) rfl (by kernel_rfl) (by kernel_rfl) (by kernel_rfl) (fun _ _ _ h => h) (Or.inl ⟨by rfl, ?_⟩) (by assumption) ?_
  · intro w hSw
    go_simp
  try simp only [Act.put, List.setIfInBounds_toArray, List.set_cons_zero, List.set_cons_succ]
  refine wpAnyH_ready (rs := [6, 7]) (by kernel_rfl) (by simp) ?_
  refine AllReadyH.cons (o := _) rfl (fun KK hK => ?_) ?_
  · go_simp
    refine hK.out _ _ (HS.out _ ((Below.heap_setCell _ _ _ _ HNe.out.1).trans ((Below.heap_setCell _ _ _ _ HNe.out.1).trans ((Below.heap_setCell _ _ _ _ HNe.out.1).trans ((Below.heap_setCell _ _ _ _ HNe.out.1).trans ((Below.heap_setCell _ _ _ _ HNe.out.1).trans HQ.out)))))) (fun hHeld => ?_)
    clear hK KK
    try simp only [Act.put, List.setIfInBounds_toArray, List.set_cons_zero, List.set_cons_succ]
    refine wpAnyH_ready (rs := [7]) (by kernel_rfl) (by simp) ?_
    refine AllReadyH.cons (o := _) rfl (fun KK hK => ?_) AllReadyH.nil
    go_simp
    refine hK.out _ _ (HS.out _ ((Below.heap_setCell _ _ _ _ HNe.out.2).trans ((Below.heap_setCell _ _ _ _ HNe.out.1).trans ((Below.heap_setCell _ _ _ _ HNe.out.1).trans ((Below.heap_setCell _ _ _ _ HNe.out.1).trans ((Below.heap_setCell _ _ _ _ HNe.out.1).trans ((Below.heap_setCell _ _ _ _ HNe.out.1).trans HQ.out))))))) (fun hHeld => ?_)
    clear hK KK
    try simp only [Act.put, List.setIfInBounds_toArray, List.set_cons_zero, List.set_cons_succ]
    refine wpAnyH_done (by kernel_rfl) ?_ _
    go_wp2_with fail
    obtain ⟨hown1, hgrow, hat, hlt1, hv1⟩ := HEnd.out
    refine bodyPost_ret (v := .bool true) (by simp [results, Tryz.results55, go_sem]) rfl ⟨rfl, ?_⟩
    exact m1_end ((((below1 w _).drew)).alloc (by show w.heap.size ≤ (w.alloc _).heap.size; simp) _) hl hVo hgl hown1 hgrow (by rcases hat with h | h; exact .inl h; exact .inr (by omega)) hv1 (.inl rfl)
  refine AllReadyH.cons (o := _) rfl (fun KK hK => ?_) AllReadyH.nil
  go_simp
  refine hK.out _ _ (HS.out _ ((Below.heap_setCell _ _ _ _ HNe.out.2).trans HQ.out)) (fun hHeld => ?_)
  clear hK KK
  try simp only [Act.put, List.setIfInBounds_toArray, List.set_cons_zero, List.set_cons_succ]
  refine wpAnyH_ready (rs := [6]) (by kernel_rfl) (by simp) ?_
  refine AllReadyH.cons (o := _) rfl (fun KK hK => ?_) AllReadyH.nil
  go_simp
  refine hK.out _ _ (HS.out _ ((Below.heap_setCell _ _ _ _ HNe.out.1).trans ((Below.heap_setCell _ _ _ _ HNe.out.1).trans ((Below.heap_setCell _ _ _ _ HNe.out.1).trans ((Below.heap_setCell _ _ _ _ HNe.out.1).trans ((Below.heap_setCell _ _ _ _ HNe.out.1).trans ((Below.heap_setCell _ _ _ _ HNe.out.2).trans HQ.out))))))) (fun hHeld => ?_)
  clear hK KK
  try simp only [Act.put, List.setIfInBounds_toArray, List.set_cons_zero, List.set_cons_succ]
  refine wpAnyH_done (by kernel_rfl) ?_ _
  go_wp2_with fail
  obtain ⟨hown1, hgrow, hat, hlt1, hv1⟩ := HEnd.out
  refine bodyPost_ret (v := .bool true) (by simp [results, Tryz.results55, go_sem]) rfl ⟨rfl, ?_⟩
  exact m1_end ((((below1 w _).drew)).alloc (by show w.heap.size ≤ (w.alloc _).heap.size; simp) _) hl hVo hgl hown1 hgrow (by rcases hat with h | h; exact .inl h; exact .inr (by omega)) hv1 (.inr rfl)
end Go.Proofs.YtfjmgccbpiolhaaGreatDoor
