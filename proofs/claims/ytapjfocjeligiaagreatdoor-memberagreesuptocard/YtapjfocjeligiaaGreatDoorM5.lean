import Derived.Test.YtapjfocjeligiaaGreatDoorRows
import Derived.Test.YtapjfocjeligiaaGreatDoorM0
import Derived.WalkKit
import Derived.BigCall
import Derived.BigGuard
import Derived.Lib.ConvBytes
import Derived.Lib.AtoiErrMem
import Derived.Lib.Strings
import Derived.Laws.Strings3
import Derived.BigQuiet
import Derived.BigRegion
import Derived.Laws.RangeAny
import Derived.Lib.AppendStr
import Derived.Lib.ItoaNum
import Derived.Lib.OthersKept
import Derived.Lib.RuneBytes
namespace Go.RowKit
theorem Hid.mk {p : Prop} (h : p) : Hid p := h
end Go.RowKit
namespace Go.Proofs.YtapjfocjeligiaaGreatDoor
open Go.RowKit
set_option linter.unusedVariables false
set_option linter.unusedSimpArgs false

theorem below_more {w w1 w2 : World} (h : Below w.heap.size w w1) (h2 : Below w1.heap.size w1 w2) : Below w.heap.size w w2 := h.trans (h2.mono h.size)
theorem below1 (w : World) (o1 : Obj) : Below w.heap.size w (w.alloc o1) := (Below.refl w.heap.size w).alloc (Nat.le_refl _) o1

/-- a letter's worth to the base 16 -/
def hexd (c : UInt8) : Nat := if c.toNat ≤ 57 then c.toNat - 48 else (c.toNat ||| 32) - 87
def isHex (c : UInt8) : Bool := (decide (48 ≤ c.toNat) && decide (c.toNat ≤ 57)) || (decide (97 ≤ (c.toNat ||| 32)) && decide ((c.toNat ||| 32) ≤ 102) && decide (58 ≤ c.toNat))
def hexN (l : List UInt8) : Nat := l.foldl (fun n c => n * 16 + hexd c) 0

theorem hexN_snoc (l : List UInt8) (c : UInt8) : hexN (l ++ [c]) = hexN l * 16 + hexd c := by simp [hexN]

set_option maxRecDepth 100000 in
theorem or32 (c : Nat) (h : c < 256) : bits .or .u8 (c : Int) 32 = ((c ||| 32 : Nat) : Int) := by
  have : ∀ c : Fin 256, bits .or .u8 ((c.val : Nat) : Int) 32 = ((c.val ||| 32 : Nat) : Int) := by decide
  exact this ⟨c, h⟩

theorem hex_cases {c : UInt8} (h : isHex c = true) : (48 ≤ c.toNat ∧ c.toNat ≤ 57 ∧ hexd c = c.toNat - 48) ∨ (58 ≤ c.toNat ∧ 97 ≤ (c.toNat ||| 32) ∧ (c.toNat ||| 32) ≤ 102 ∧ hexd c = (c.toNat ||| 32) - 87) := by
  unfold isHex at h
  simp only [Bool.or_eq_true, Bool.and_eq_true, decide_eq_true_eq] at h
  rcases h with ⟨h1, h2⟩ | ⟨⟨h1, h2⟩, h3⟩
  · left; exact ⟨h1, h2, by unfold hexd; rw [if_pos h2]⟩
  · right; exact ⟨h3, h1, h2, by unfold hexd; rw [if_neg (by omega)]⟩

theorem hexd_lt {c : UInt8} (h : isHex c = true) : hexd c < 16 := by
  rcases hex_cases h with ⟨h1, h2, h3⟩ | ⟨h1, h2, h3, h4⟩ <;> omega

theorem fold_hex (l : List UInt8) : ∀ acc, l.foldl (fun n c => n * 16 + hexd c) acc = acc * 16 ^ l.length + hexN l := by
  induction l with
  | nil => intro acc; simp [hexN]
  | cons c r ih =>
    intro acc
    rw [List.foldl_cons, ih]
    have e : hexN (c :: r) = hexd c * 16 ^ r.length + hexN r := by
      show (c :: r).foldl (fun n c => n * 16 + hexd c) 0 = _
      rw [List.foldl_cons, ih]; simp
    rw [e, List.length_cons, Nat.pow_succ, Nat.add_mul, Nat.mul_assoc, Nat.mul_comm 16]
    omega
theorem hexN_cons (c : UInt8) (r : List UInt8) : hexN (c :: r) = hexd c * 16 ^ r.length + hexN r := by
  show (c :: r).foldl (fun n c => n * 16 + hexd c) 0 = _
  rw [List.foldl_cons, fold_hex]; simp
theorem hexN_lt' (l : List UInt8) (h : l.all isHex = true) : hexN l < 16 ^ l.length := by
  induction l with
  | nil => decide
  | cons c r ih =>
    simp only [List.all_cons, Bool.and_eq_true] at h
    have h1 := ih h.2
    have h2 := hexd_lt h.1
    rw [hexN_cons, List.length_cons, Nat.pow_succ]
    have h3 : hexd c * 16 ^ r.length ≤ 15 * 16 ^ r.length := Nat.mul_le_mul_right _ (by omega)
    omega
theorem hexN_lt (l : List UInt8) (h : l.all isHex = true) (k : Nat) (hk : l.length ≤ k) : hexN l < 16 ^ k :=
  Nat.lt_of_lt_of_le (hexN_lt' l h) (Nat.pow_le_pow_right (by decide) hk)

theorem take_snoc4 (t : ByteArray) (k : Nat) (h : k < t.size) : t.data.toList.take (k + 1) = t.data.toList.take k ++ [t.data.toList.getD k 0] := by
  have hl : k < t.data.toList.length := by simpa using h
  rw [List.take_succ_eq_append_getElem hl, List.getD_eq_getElem?_getD, List.getElem?_eq_getElem hl]; rfl
end Go.Proofs.YtapjfocjeligiaaGreatDoor
namespace Go.Proofs.YtapjfocjeligiaaGreatDoor
open Go.RowKit
set_option linter.unusedVariables false
set_option linter.unusedSimpArgs false

theorem extract_drop (s : ByteArray) (k : Nat) : (s.extract k s.size).data.toList = s.data.toList.drop k := by
  rw [Lib.extract_data]; exact List.take_of_length_le (by simp)
theorem extract_take (s : ByteArray) (k : Nat) : (s.extract 0 k).data.toList = s.data.toList.take k := by
  rw [Lib.extract_data]; simp

/-- an escape by number stands there -/
structure NumAt (s : ByteArray) (k : Nat) (ds : List UInt8) : Prop where
  len : ds.length = 4
  hex : ds.all isHex = true
  at_ : ∃ pre post, s.data.toList = pre ++ (92 :: 117 :: ds) ++ post ∧ pre.length = k

theorem NumAt.lt {s : ByteArray} {k : Nat} {ds : List UInt8} (h : NumAt s k ds) : k + 6 ≤ s.size := by
  obtain ⟨pre, post, e, hp⟩ := h.at_
  have := congrArg List.length e
  have hl := h.len
  simp at this
  omega

theorem NumAt.digits {s : ByteArray} {k : Nat} {ds : List UInt8} (h : NumAt s k ds) : ∃ post, s.data.toList.drop k = 92 :: 117 :: (ds ++ post) := by
  obtain ⟨pre, post, e, hp⟩ := h.at_
  refine ⟨post, ?_⟩
  rw [e, List.append_assoc, List.drop_append_of_le_length (by omega), List.drop_eq_nil_of_le (by omega)]
  rfl

theorem get_of {s : ByteArray} {k : Nat} {c : UInt8} {r : List UInt8} (h : s.data.toList.drop k = c :: r) (hk : k < s.size) : s[k]'hk = c := by
  have hl : k < s.data.toList.length := by simpa using hk
  have : s[k]'hk = s.data.toList[k]'hl := rfl
  rw [this]
  rw [List.drop_eq_getElem_cons hl] at h
  exact (List.cons.inj h).1
theorem drop_next {s : ByteArray} {k : Nat} {c : UInt8} {r : List UInt8} (h : s.data.toList.drop k = c :: r) : s.data.toList.drop (k + 1) = r := by
  rw [← List.drop_drop, h]; rfl
end Go.Proofs.YtapjfocjeligiaaGreatDoor
namespace Go.Proofs.YtapjfocjeligiaaGreatDoor
open Go.RowKit
set_option linter.unusedVariables false
set_option linter.unusedSimpArgs false

theorem and15 (x : Int) (h0 : 0 ≤ x) (h : x < 2147483648) : bits .and .i32 x 15 = x % 16 := by
  have h := bits_mask .i32 31 (by decide) wraps_i32 4 (by decide) x h0 (by omega)
  have e : ((2 : Int) ^ 4 - 1) = 15 := by decide
  have e2 : ((2 : Int) ^ 4) = 16 := by decide
  rw [e, e2] at h
  exact h
theorem and1023 (x : Int) (h0 : 0 ≤ x) (h : x < 2147483648) : bits .and .i32 x 1023 = x % 1024 := by
  have h := bits_mask .i32 31 (by decide) wraps_i32 10 (by decide) x h0 (by omega)
  have e : ((2 : Int) ^ 10 - 1) = 1023 := by decide
  have e2 : ((2 : Int) ^ 10) = 1024 := by decide
  rw [e, e2] at h
  exact h

/-- the digits -/
def hxs : ByteArray := ⟨#[48, 49, 50, 51, 52, 53, 54, 55, 56, 57, 97, 98, 99, 100, 101, 102]⟩
def hx (i : Nat) : UInt8 := hxs.data.toList.getD i 0
theorem hx_at (i : Nat) (h : i < 16) : (ByteArray.mk #[48, 49, 50, 51, 52, 53, 54, 55, 56, 57, 97, 98, 99, 100, 101, 102])[i]'h = hx i := by
  have hl : i < hxs.data.toList.length := h
  unfold hx
  rw [List.getD_eq_getElem?_getD, List.getElem?_eq_getElem hl]; rfl

/-- an escape by number -/
def unit (n : Nat) : List UInt8 := [92, 117, hx (n / 4096), hx (n / 256 % 16), hx (n / 16 % 16), hx (n % 16)]
end Go.Proofs.YtapjfocjeligiaaGreatDoor
namespace Go.Proofs.YtapjfocjeligiaaGreatDoor
open Go.RowKit
set_option linter.unusedVariables false
set_option linter.unusedSimpArgs false

/-- a rune by escapes alone -/
def esc (n : Nat) : List UInt8 := if n < 65536 then unit n else unit (55296 + (n - 65536) / 1024) ++ unit (56320 + (n - 65536) % 1024)
/-- what is no rune counts as FFFD -/
def rn (r : Int) : Nat := if Lib.validRune r then r.toNat else 65533

theorem rn_lt (r : Int) : rn r ≤ 1114111 ∧ ¬ (55296 ≤ rn r ∧ rn r ≤ 57343) := by
  unfold rn Lib.validRune
  split
  · rename_i h
    simp only [decide_eq_true_eq] at h
    omega
  · omega

theorem append_bytes (a b : List UInt8) : (ByteArray.mk a.toArray) ++ (ByteArray.mk b.toArray) = ByteArray.mk (a ++ b).toArray := by
  apply ByteArray.ext
  simp [ByteArray.data_append]
end Go.Proofs.YtapjfocjeligiaaGreatDoor
namespace Go.Proofs.YtapjfocjeligiaaGreatDoor
open Go.RowKit
set_option linter.unusedVariables false
set_option linter.unusedSimpArgs false

set_option maxHeartbeats 400000 in
theorem w_stray_no (s : ByteArray) (p r : Int) (w : World) (hr : (r == 65533) = false) :
    Calls Tryz.prog 74 #[.string s, .int .i64 p, .int .i32 r] w fun e w' => e = .returned (.bool false) ∧ w' = w := by
  go_enter Tryz.func74, Tryz.ntmps74
  go_wp2_with fail
  go_ret
  exact ⟨rfl, rfl⟩

theorem iter_below (w : World) (s : ByteArray) (p : Nat) : Below w.heap.size w (w.iter s p) := below1 w _

theorem nxt (w : World) (s : ByteArray) (p : Nat) (r q : Nat) (ty : TypeId) (h : p < s.size) (hd : Utf8.decode s p = (r, q - p)) (hq : p ≤ q) :
    (Instr.next (.pointer (some ⟨w.heap.size, 0, none⟩)) true ty).run Tryz.prog (w.iter s p) = .ok (.tuple #[.bool true, .int .i64 (p : Int), .int .i32 (r : Int)]) (w.iter s q) := by
  have := run_next_any (P := Tryz.prog) w s p ty h
  rw [hd] at this
  rw [show p + (q - p) = q by omega] at this
  exact this

set_option maxRecDepth 100000 in
set_option maxHeartbeats 800000 in
theorem f_Valid (w : World) : Calls Tryz.prog 51 #[.string ⟨#[97]⟩] w fun e w' => e = .returned (.bool true) ∧ Below w.heap.size w w' := by
  have h0 := fun ty => nxt w ⟨#[97]⟩ 0 97 1 ty (by decide) (by decide) (by decide)
  have h1 := fun ty => run_next_end (P := Tryz.prog) w ⟨#[97]⟩ 1 ty (by decide)
  have HS := Hid.mk (fun u => w_stray_no ⟨#[97]⟩ 0 97 u (by decide))
  have HB := Hid.mk (iter_below w ⟨#[97]⟩ 1)
  go_enter Tryz.func51, Tryz.ntmps51
  go_wp2_with fail
  refine wp_loop_rounds 2 ?_
  rw [rounds_succ]
  go_wp2_with fail
  refine (HS.out _).mono ?_
  rintro e w1 ⟨rfl, hw⟩
  obtain rfl := hw.symm
  go_wp2_with fail
  rw [rounds_succ]
  go_wp2_with fail
  go_ret
  exact ⟨rfl, HB.out⟩
end Go.Proofs.YtapjfocjeligiaaGreatDoor
namespace Go.Proofs.YtapjfocjeligiaaGreatDoor
open Go.RowKit
set_option linter.unusedVariables false
set_option linter.unusedSimpArgs false

/-- a call that appends bytes to a row of the caller's own -/
def AppR (B : Nat) (v : Value) (w w' : World) (e : Ending) (n : Nat) (l : List UInt8) : Prop := ∃ ao cap, e = .returned (.slice ao n cap) ∧ w'.ownsRow B 5 1 (.slice ao n cap) n (Lib.byteCells l) ∧ Below B w w' ∧ w.grownBy w' v.ownBlock

theorem grown_trans {a b c : World} {r : Option Nat} (h : a.grownBy b r) (k : b.grownBy c r) : a.grownBy c r :=
  ⟨k.os.trans h.os, k.tape.trans h.tape, k.output.trans h.output, Nat.le_trans h.size k.size, fun i hi hr => (k.block i (Nat.lt_of_lt_of_le hi h.size) hr).trans (h.block i hi hr)⟩
theorem grown_after {w w1 : World} {o : Obj} {r : Option Nat} (h : (w.alloc o).grownBy w1 r) : w.grownBy w1 r := grown_trans (World.grownBy_alloc w o r) h
theorem own_ne_iter {w : World} {B e size n : Nat} {v : Value} {xs : List Value} {k : Nat} {s : ByteArray} {pos : Nat} (h : w.ownsRow B e size v n xs) (hk : w.heap[k]? = some (.stringIter s pos)) : some k ≠ v.ownBlock := by
  rcases h.2 with ⟨rfl, _⟩ | ⟨g, cap, cur, rfl, hb, hg, rest⟩
  · simp [Value.ownBlock]
  · intro e
    simp only [Value.ownBlock, Option.some.injEq] at e
    subst e
    rw [hk] at hg
    cases hg
theorem own_iterAt {w : World} {B e size n : Nat} {v : Value} {xs : List Value} {k : Nat} {s : ByteArray} {pos : Nat} (h : w.ownsRow B e size v n xs) (hk : w.heap[k]? = some (.stringIter s pos)) (pos' : Nat) : (w.iterAt k s pos').ownsRow B e size v n xs := by
  refine ⟨h.1, ?_⟩
  rcases h.2 with h0 | ⟨g, cap, cur, hv, hb, hg, rest⟩
  · exact .inl h0
  · refine .inr ⟨g, cap, cur, hv, hb, ?_, rest⟩
    rw [Lib.iterAt_other _ _ _ _ _ (fun e => by subst e; rw [hk] at hg; cases hg)]
    exact hg
theorem iter_kept {w w' : World} {B e size n : Nat} {v : Value} {xs : List Value} {k : Nat} {s : ByteArray} {pos : Nat} (h : w.ownsRow B e size v n xs) (hk : w.heap[k]? = some (.stringIter s pos)) (hg : w.grownBy w' v.ownBlock) : w'.heap[k]? = some (.stringIter s pos) := by
  rw [hg.block k (Array.getElem?_eq_some_iff.1 hk).1 (own_ne_iter h hk)]; exact hk
theorem nxtAt (w : World) (k : Nat) (s : ByteArray) (p : Nat) (r q : Nat) (hk : w.heap[k]? = some (.stringIter s p)) (h : p < s.size) (hd : Utf8.decode s p = (r, q - p)) (hq : p ≤ q) (ty : TypeId) :
    (Instr.next (.pointer (some ⟨k, 0, none⟩)) true ty).run Tryz.prog w = .ok (.tuple #[.bool true, .int .i64 (p : Int), .int .i32 (r : Int)]) (w.iterAt k s q) := by
  have := Lib.run_next_any_at (P := Tryz.prog) w k s p ty hk h
  rw [hd, show p + (q - p) = q by omega] at this
  exact this

theorem numAt_fixed : NumAt ⟨#[34, 92, 117, 48, 48, 101, 57, 34]⟩ 1 [48, 48, 101, 57] := ⟨rfl, by decide, [34], [34], rfl, rfl⟩
end Go.Proofs.YtapjfocjeligiaaGreatDoor
