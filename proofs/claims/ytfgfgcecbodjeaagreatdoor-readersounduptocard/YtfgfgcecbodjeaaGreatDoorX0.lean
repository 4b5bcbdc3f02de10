import Derived.Test.YtfgfgcecbodjeaaGreatDoorM0
import Derived.Test.YtfgfgcecbodjeaaGreatDoorM1
import Derived.Test.YtfgfgcecbodjeaaGreatDoorM2
import Derived.Test.YtfgfgcecbodjeaaGreatDoorM3
import Derived.Test.YtfgfgcecbodjeaaGreatDoorM4
import Derived.Test.YtfgfgcecbodjeaaGreatDoorM5
import Derived.Test.YtfgfgcecbodjeaaGreatDoorM6
import Derived.Test.YtfgfgcecbodjeaaGreatDoorM7
import Derived.Test.YtfgfgcecbodjeaaGreatDoorM8
import Derived.Test.YtfgfgcecbodjeaaGreatDoorM9
import Derived.Test.YtfgfgcecbodjeaaGreatDoorM10
import Derived.Test.YtfgfgcecbodjeaaGreatDoorM11
import Derived.Test.YtfgfgcecbodjeaaGreatDoorM12
import Derived.Test.YtfgfgcecbodjeaaGreatDoorM13
import Derived.Test.YtfgfgcecbodjeaaGreatDoorM14
import Derived.Test.YtfgfgcecbodjeaaGreatDoorM15
import Derived.Test.YtfgfgcecbodjeaaGreatDoorM16
import Derived.Test.YtfgfgcecbodjeaaGreatDoorM17
import Derived.Test.YtfgfgcecbodjeaaGreatDoorM18
import Derived.Test.YtfgfgcecbodjeaaGreatDoorM19
import Derived.Test.YtfgfgcecbodjeaaGreatDoorM20
import Derived.Test.YtfgfgcecbodjeaaGreatDoorM21
import Derived.Test.YtfgfgcecbodjeaaGreatDoorM22
import Derived.Test.YtfgfgcecbodjeaaGreatDoorM23
import Derived.Test.YtfgfgcecbodjeaaGreatDoorM24
import Derived.Test.YtfgfgcecbodjeaaGreatDoorM25
import Derived.Test.YtfgfgcecbodjeaaGreatDoorM26
import Derived.Test.YtfgfgcecbodjeaaGreatDoorM27
import Derived.Test.YtfgfgcecbodjeaaGreatDoorM28
import Derived.Test.YtfgfgcecbodjeaaGreatDoorM29
import Derived.Test.YtfgfgcecbodjeaaGreatDoorM30
import Derived.Test.YtfgfgcecbodjeaaGreatDoorM31
import Derived.Test.YtfgfgcecbodjeaaGreatDoorM32
import Derived.Test.YtfgfgcecbodjeaaGreatDoorM33
import Derived.Test.YtfgfgcecbodjeaaGreatDoorM34
import Derived.Test.YtfgfgcecbodjeaaGreatDoorM35
import Derived.Test.YtfgfgcecbodjeaaGreatDoorM36
import Derived.Test.YtfgfgcecbodjeaaGreatDoorM37
import Derived.Test.YtfgfgcecbodjeaaGreatDoorM38
import Derived.Test.YtfgfgcecbodjeaaGreatDoorM39
import Derived.Test.YtfgfgcecbodjeaaGreatDoorM40
import Derived.Test.YtfgfgcecbodjeaaGreatDoorM41
import Derived.Test.YtfgfgcecbodjeaaGreatDoorM42
import Derived.Test.YtfgfgcecbodjeaaGreatDoorM43
import Derived.Test.YtfgfgcecbodjeaaGreatDoorM44
namespace Go.Proofs.YtfgfgcecbodjeaaGreatDoor
open Go.RowKit
set_option linter.unusedVariables false
set_option linter.unusedSimpArgs false

theorem pcsF_eq : ∀ (f : Nat) (l : List UInt8), l.length ≤ f → pcsF f l = pcs l := by
  intro f
  induction f using Nat.strongRecOn with
  | _ f ih =>
    intro l hl
    cases f with
    | zero =>
      have e : l = [] := List.eq_nil_of_length_eq_zero (by omega)
      subst e; rfl
    | succ f =>
      by_cases hn : l = []
      · subst hn; rfl
      · have hp := decL_pos l
        have hlen : 0 < l.length := List.length_pos_iff.2 hn
        obtain ⟨m, hm⟩ : ∃ m, l.length = m + 1 := ⟨l.length - 1, by omega⟩
        unfold pcs
        rw [hm]
        simp only [pcsF, if_neg hn]
        rw [ih f (by omega) _ (by simp; omega)]
        rw [ih m (by omega) _ (by simp; omega)]
theorem pcs_cons {l : List UInt8} (h : l ≠ []) : pcs l = decL l :: pcs (l.drop (decL l).2) := by
  have hlen : 0 < l.length := List.length_pos_iff.2 h
  obtain ⟨m, hm⟩ : ∃ m, l.length = m + 1 := ⟨l.length - 1, by omega⟩
  have hp := decL_pos l
  unfold pcs
  rw [hm]
  simp only [pcsF, if_neg h]
  rw [pcsF_eq m _ (by simp; omega)]
  rfl

theorem runes_nil : runes [] = [] := rfl
theorem runes_cons {l : List UInt8} (h : l ≠ []) : runes l = (decL l).1 :: runes (l.drop (decL l).2) := by unfold runes; rw [pcs_cons h]; rfl
theorem runes_len_le (l : List UInt8) : (runes l).length ≤ l.length := by
  have : ∀ n, ∀ l : List UInt8, l.length ≤ n → (runes l).length ≤ l.length := by
    intro n
    induction n with
    | zero =>
      intro l hl
      have e : l = [] := List.eq_nil_of_length_eq_zero (by omega)
      subst e; exact Nat.le_refl _
    | succ n ih =>
      intro l hl
      by_cases h : l = []
      · subst h; exact Nat.le_refl _
      · have hp := decL_pos l
        have hlen : 0 < l.length := List.length_pos_iff.2 h
        rw [runes_cons h, List.length_cons]
        have := ih (l.drop (decL l).2) (by simp; omega)
        simp at this
        omega
  exact this l.length l (Nat.le_refl _)

theorem runes_enc (n : Nat) (h : isR n) (post : List UInt8) : runes (enc n ++ post) = n :: runes post := by
  have hl := (enc_len n).1
  have hne : enc n ++ post ≠ [] := by intro e; have := congrArg List.length e; rw [List.length_append, List.length_nil] at this; omega
  rw [runes_cons hne, dec_enc n h post]
  simp
end Go.Proofs.YtfgfgcecbodjeaaGreatDoor

namespace Go.Proofs.YtfgfgcecbodjeaaGreatDoor
open Go.RowKit
set_option linter.unusedVariables false
set_option linter.unusedSimpArgs false

theorem off_nil (k : Nat) : off [] k = 0 := by cases k <;> simp [off]
theorem off_succ {l : List UInt8} (h : l ≠ []) (k : Nat) : off l (k + 1) = (decL l).2 + off (l.drop (decL l).2) k := by
  simp only [off, if_neg h]
theorem off_add (i : Nat) : ∀ (l : List UInt8) (j : Nat), off l (i + j) = off l i + off (l.drop (off l i)) j := by
  induction i with
  | zero => intro l j; rw [Nat.zero_add]; show _ = 0 + off (l.drop 0) j; rw [List.drop_zero, Nat.zero_add]
  | succ i ih =>
    intro l j
    by_cases h : l = []
    · subst h; simp [off_nil]
    · rw [show i + 1 + j = (i + j) + 1 by omega, off_succ h, ih, off_succ h, List.drop_drop, Nat.add_assoc]
theorem off_step (l : List UInt8) (k : Nat) (h : l.drop (off l k) ≠ []) : off l (k + 1) = off l k + (decL (l.drop (off l k))).2 := by
  rw [off_add, off_succ h]; simp [off]
/-- behind all the pieces -/
theorem off_end (k : Nat) : ∀ l : List UInt8, (runes l).length ≤ k → off l k = l.length := by
  induction k with
  | zero =>
    intro l hk
    by_cases h : l = []
    · subst h; rfl
    · rw [runes_cons h, List.length_cons] at hk; omega
  | succ k ih =>
    intro l hk
    by_cases h : l = []
    · subst h; rfl
    · rw [runes_cons h, List.length_cons] at hk
      have h2 := decL_le l h
      rw [off_succ h, ih _ (by omega), List.length_drop]; omega
theorem off_lt (k : Nat) : ∀ l : List UInt8, k < (runes l).length → off l k < l.length := by
  induction k with
  | zero =>
    intro l hk
    by_cases h : l = []
    · subst h; rw [runes_nil] at hk; cases hk
    · exact List.length_pos_iff.2 h
  | succ k ih =>
    intro l hk
    by_cases h : l = []
    · subst h; rw [runes_nil] at hk; cases hk
    · rw [runes_cons h, List.length_cons] at hk
      have := ih (l.drop (decL l).2) (by omega)
      rw [List.length_drop] at this
      rw [off_succ h]; omega
end Go.Proofs.YtfgfgcecbodjeaaGreatDoor

namespace Go.Proofs.YtfgfgcecbodjeaaGreatDoor
open Go.RowKit
set_option linter.unusedVariables false
set_option linter.unusedSimpArgs false

def okB (l : List UInt8) : Bool := decide (txt (runes l) = l)
theorem ok_enc (n : Nat) (hn : isR n) (post : List UInt8) : okB (enc n ++ post) = okB post := by
  unfold okB
  rw [runes_enc n hn post]
  have e : txt (n :: runes post) = enc n ++ txt (runes post) := rfl
  rw [e]
  by_cases h : txt (runes post) = post
  · rw [decide_eq_true h, decide_eq_true (by rw [h])]
  · rw [decide_eq_false h, decide_eq_false (fun h2 => h (List.append_cancel_left h2))]
theorem ok_stray (l : List UInt8) (h : l ≠ []) (e : decL l = (65533, 1)) : okB l = false := by
  unfold okB
  refine decide_eq_false fun h2 => ?_
  rw [runes_cons h, e] at h2
  have e2 : l = enc 65533 ++ txt (runes (l.drop 1)) := h2.symm
  have hd := dec_enc 65533 (by unfold isR; omega) (txt (runes (l.drop 1)))
  rw [← e2, e, enc_err] at hd
  cases hd
theorem runes_txt (zs : List Nat) (h : ∀ z ∈ zs, isR z) : runes (txt zs) = zs := by
  induction zs with
  | nil => rfl
  | cons z r ih =>
    have e : txt (z :: r) = enc z ++ txt r := rfl
    rw [e, runes_enc z (h z (List.mem_cons_self ..)), ih fun y hy => h y (List.mem_cons_of_mem _ hy)]
theorem ok_txt (zs : List Nat) (h : ∀ z ∈ zs, isR z) : okB (txt zs) = true := by
  unfold okB; rw [runes_txt zs h]; simp
end Go.Proofs.YtfgfgcecbodjeaaGreatDoor

namespace Go.Proofs.YtfgfgcecbodjeaaGreatDoor
open Go.RowKit
set_option linter.unusedVariables false
set_option linter.unusedSimpArgs false

theorem Tryz.infoP : (Tryz.prog.info? 80).map (fun i => (i.zero, i.size, i.bytes)) = some (some (.agg #[.int .i64 0, .int .i64 0, .int .i64 0, .bool false]), 4, 32) := by kernel_rfl

theorem sizeL (s : ByteArray) : s.data.toList.length = s.size := by rw [Array.length_toList]; rfl
/-- the cells of the reference's piece -/
def pcC (s : ByteArray) (f : Nat) : List Value := [.int .i64 (f : Int), .int .i64 ((f + (decL (s.data.toList.drop f)).2 : Nat) : Int), .int .i64 ((decL (s.data.toList.drop f)).1 : Int), .bool (strayL (s.data.toList.drop f))]
def prow (s : ByteArray) (n : Nat) : List Value := (List.range n).flatMap fun k => pcC s (off s.data.toList k)
theorem prow_up (s : ByteArray) (n : Nat) : prow s (n + 1) = prow s n ++ pcC s (off s.data.toList n) := by unfold prow; rw [List.range_succ, List.flatMap_append]; simp

theorem new4q (w1 : World) (o : Obj) (a b c d : Value) : ∀ (j : Nat) (u : Value), ([a, b, c, d] : List Value)[j]? = some u → ((w1.alloc o).alloc (.cells #[a, b, c, d] 80)).cell? ((⟨w1.heap.size + 1, 0, none⟩ : Addr).add j) = some u := by
  intro j u hj
  have h := heap_alloc_new (w1.alloc o) (.cells #[a, b, c, d] 80)
  rw [World.size_alloc] at h
  have e : (⟨w1.heap.size + 1, 0, none⟩ : Addr).add j = ⟨w1.heap.size + 1, j, none⟩ := by
    unfold Addr.add; by_cases h0 : j = 0 <;> simp [h0]
  rw [e, cell_of_row _ _ _ _ _ _ h]
  match j, hj with
  | 0, hj => exact hj
  | 1, hj => exact hj
  | 2, hj => exact hj
  | 3, hj => exact hj
  | j + 4, hj => simp at hj
structure PcSt (s : ByteArray) (w wr : World) (v : Value) (j pos : Nat) : Prop where
  own : wr.ownsRow w.heap.size 80 4 v j (prow s j)
  at_ : pos = off s.data.toList j
  few : j ≤ (runes s.data.toList).length
  below : Below w.heap.size w wr

set_option maxRecDepth 100000 in
set_option maxHeartbeats 4000000 in
theorem w_Pieces (s : ByteArray) (w : World) (hs : s.size ≤ 1099511627776) :
    Calls Tryz.prog 43 #[.string s] w fun e w' => ∃ so sc, e = .returned (.slice so (runes s.data.toList).length sc) ∧ Hid (w'.ownsRow w.heap.size 80 4 (.slice so (runes s.data.toList).length sc) (runes s.data.toList).length (prow s (runes s.data.toList).length)) ∧ Below w.heap.size w w' := by
  obtain ⟨i0, hi0, hz0, hz1, hz2⟩ := info_parts Tryz.infoP
  have hrl := runes_len_le s.data.toList
  rw [sizeL] at hrl
  have HRL := Hid.mk hrl
  clear hrl
  have HS : Hid (PcSt s w (w.alloc (.cells #[] 80)) (.slice (some ⟨w.heap.size, 0, none⟩) 0 0) 0 0) :=
    ⟨⟨rfl, .inr ⟨w.heap.size, 0, #[], rfl, Nat.le_refl _, heap_alloc_new w _, Nat.le_refl _, by unfold maxLen; omega, rfl, rfl⟩⟩, rfl, Nat.zero_le _, below1 w _⟩
  go_enter Tryz.func43, Tryz.ntmps43
  go_wp2_with fail
  go_loopw [3, 4, 5] (fun l b _ wr => ∃ (j pos : Nat) (ao : Option Addr) (cap : Nat), pos ≤ s.size ∧ j ≤ s.size ∧ l = .slice ao j cap ∧ b = .int .i64 (pos : Int) ∧ Hid (PcSt s w wr (.slice ao j cap) j pos)) (fun _ b _ _ => s.size - (intOf b).toNat)
  case atStart => exact ⟨0, 0, _, 0, Nat.zero_le _, Nat.zero_le _, rfl, rfl, HS⟩
  case round =>
    obtain ⟨j, pos, ao, cap, hpos, hj, rfl, rfl, HQ⟩ := hrel
    by_cases hp : pos < s.size
    · have hl1 : (pos : Int) < (s.size : Int) := by omega
      have HAt := Hid.mk (w_at s pos wr hp (by omega))
      unfold pcV at HAt
      have h1 := decL_pos (s.data.toList.drop pos)
      have h2 := step_le hp
      have hdc : pcC s pos = [.int .i64 (pos : Int), .int .i64 ((pos + (decL (s.data.toList.drop pos)).2 : Nat) : Int), .int .i64 ((decL (s.data.toList.drop pos)).1 : Int), .bool (strayL (s.data.toList.drop pos))] := rfl
      have hoq : off s.data.toList (j + 1) = pos + (decL (s.data.toList.drop pos)).2 := by
        have h := off_step s.data.toList j (by rw [← HQ.out.at_]; exact drop_ne hp)
        rw [h, ← HQ.out.at_]
      have hjN : j < (runes s.data.toList).length := by
        rcases Nat.lt_or_ge j (runes s.data.toList).length with g | g
        · exact g
        · have := off_end j s.data.toList g
          rw [← HQ.out.at_, sizeL] at this
          omega
      generalize strayL (s.data.toList.drop pos) = st at HAt hdc
      generalize (decL (s.data.toList.drop pos)).1 = r at HAt hdc
      obtain ⟨q, hq⟩ : ∃ q, q = pos + (decL (s.data.toList.drop pos)).2 := ⟨_, rfl⟩
      rw [← hq] at HAt hdc h2 hoq
      have hq1 : pos + 1 ≤ q := by omega
      have HDC := Hid.mk hdc
      have HOQ := Hid.mk hoq
      have HJN := Hid.mk hjN
      clear h1 hq hdc hoq hjN
      go_wp2_with fail
      refine HAt.out.mono ?_
      rintro e w1 ⟨rfl, hb1⟩
      have hown := own_below' HQ.out.own hb1
      have HB1 := Hid.mk (HQ.out.below.trans (hb1.mono HQ.out.below.size))
      have hsz := HB1.out.size
      clear hb1 HAt
      go_wp2_with (at_builtin; refine wpList_append_own _ rfl (.tmp 14) (.tmp 16) 77 rfl w.heap.size 80 i0 (.agg #[.int .i64 0, .int .i64 0, .int .i64 0, .bool false]) 4 32 Tryz.underlying77 hi0 hz0 hz1 hz2 rfl (by decide) _ _ _ rfl ((hown.alloc _).alloc _) ⟨w1.heap.size + 1, 0, none⟩ 1 1 [.int .i64 (pos : Int), .int .i64 (q : Int), .int .i64 (r : Int), .bool st] rfl rfl (new4q w1 _ _ _ _ _) (by intro u hu; simp at hu; rcases hu with rfl | rfl | rfl | rfl <;> rfl) (by unfold maxLen; omega) (by omega) (by simp; omega) ?_)
      intro v4 w4 hown4 hgrow4 hnn
      obtain ⟨so4, c4, hv4⟩ := own_shape hown4
      subst hv4
      have cQ : w4.cell? ⟨w1.heap.size, 1, none⟩ = some (.int .i64 (q : Int)) := kept4 hown hgrow4
      have HN : Hid (PcSt s w w4 (.slice so4 (j + 1) c4) (j + 1) q) := by
        refine ⟨?_, HOQ.out.symm, HJN.out, ((HB1.out.alloc hsz _).alloc (by simp; omega) _).grown hgrow4 (by simp; omega) (own_base hown)⟩
        rw [prow_up, ← HQ.out.at_, HDC.out]
        exact hown4
      have hj1 : j + 1 ≤ s.size := by have := HRL.out; have := HJN.out; omega
      clear hown4 hgrow4 hnn hown
      go_wp2_with fail
      go_roundw
      case rel => exact ⟨j + 1, q, so4, c4, h2, hj1, rfl, rfl, HN⟩
      case measure => simp [intOf]; omega
    · have hl1 : ¬ (pos : Int) < (s.size : Int) := by omega
      have HJ : Hid (j = (runes s.data.toList).length) := by
        show _ = _
        have a := HQ.out.at_
        have f := HQ.out.few
        have g : ¬ j < (runes s.data.toList).length := by
          intro g
          have := off_lt j s.data.toList g
          rw [sizeL] at this
          omega
        omega
      have HF : Hid (wr.ownsRow w.heap.size 80 4 (.slice ao (runes s.data.toList).length cap) (runes s.data.toList).length (prow s (runes s.data.toList).length)) := by
        rw [← HJ.out]; exact HQ.out.own
      go_wp2_with fail
      go_ret
      exact ⟨ao, cap, by rw [HJ.out]; rfl, HF, HQ.out.below⟩
end Go.Proofs.YtfgfgcecbodjeaaGreatDoor

