import Derived.Test.YtapjfocjeligiaaGreatDoorM7
import Derived.Test.YtapjfocjeligiaaGreatDoorM5
import Derived.Test.YtapjfocjeligiaaGreatDoorM17
import Derived.Test.YtapjfocjeligiaaGreatDoorRows
import Derived.Test.YtapjfocjeligiaaGreatDoorM13
import Derived.WideKeyArgs
import Derived.WideKeyElems4
import Derived.Deep.Slices
import Derived.OpenShut
import Derived.WalkKit
import Derived.Test.YtapjfocjeligiaaGreatDoorM18
import Derived.Test.YtapjfocjeligiaaGreatDoorZMR4
namespace Go.Proofs.YtapjfocjeligiaaGreatDoor
open Go.RowKit
set_option linter.unusedVariables false
set_option linter.unusedSimpArgs false

theorem below_grown {w w1 : World} (hb : Below w.heap.size w w1) (r : Option Nat) : w.grownBy w1 r := ⟨hb.os, hb.tape, hb.output, hb.size, fun i hi _ => hb.block i hi⟩
theorem own_below {w w1 : World} {B e size n : Nat} {v : Value} {xs : List Value} (h : w.ownsRow B e size v n xs) (hb : Below w.heap.size w w1) : w1.ownsRow B e size v n xs := by
  refine ⟨h.1, ?_⟩
  rcases h.2 with h0 | ⟨g, cap, cur, hv, hb', hg, rest⟩
  · exact .inl h0
  · refine .inr ⟨g, cap, cur, hv, hb', ?_, rest⟩
    rw [hb.block g (Array.getElem?_eq_some_iff.1 hg).1]
    exact hg

/-- the sign of a short escape -/
def sgn (n : Nat) : Option UInt8 := if n = 34 then some 34 else if n = 92 then some 92 else if n = 8 then some 98 else if n = 12 then some 102 else if n = 10 then some 110 else if n = 13 then some 114 else if n = 9 then some 116 else none
/-- a rune as Quote writes it -/
def qd (n : Nat) : List UInt8 := match sgn n with
  | some c => [92, c]
  | none => if n < 32 ∨ n = 127 then unit n else enc n
theorem qd_len (n : Nat) : 1 ≤ (qd n).length ∧ (qd n).length ≤ 6 := by
  unfold qd
  split
  · simp
  · split
    · have e : (unit n).length = 6 := rfl
      omega
    · have := enc_len n; omega

theorem encodeRune_enc (n : Nat) (h : isR n) : Lib.encodeRune (n : Int) = enc n := by
  unfold isR at h
  unfold Lib.encodeRune enc
  by_cases h1 : n < 0x80
  · rw [Lib.encodeRuneZ_one (by omega) (by omega), if_pos h1]; simp
  · rw [if_neg h1]
    by_cases h2 : n < 0x800
    · rw [Lib.encodeRuneZ_two (by omega) (by omega), if_pos h2]
      simp only [List.map_cons, List.map_nil]
      rw [show (192 + (n : Int) / 64).toNat = 0xC0 + n / 64 by omega, show (128 + (n : Int) % 64).toNat = 0x80 + n % 64 by omega]
    · rw [if_neg h2]
      unfold Lib.encodeRuneZ
      rw [if_neg (by omega), if_neg (by omega)]
      by_cases h3 : n < 0x10000
      · rw [if_pos (by omega), if_pos h3]
        simp only [List.map_cons, List.map_nil]
        rw [show (224 + (n : Int) / 4096).toNat = 0xE0 + n / 4096 by omega, show (128 + (n : Int) / 64 % 64).toNat = 0x80 + n / 64 % 64 by omega, show (128 + (n : Int) % 64).toNat = 0x80 + n % 64 by omega]
      · rw [if_neg (by omega), if_pos (by omega), if_neg h3]
        simp only [List.map_cons, List.map_nil]
        rw [show (240 + (n : Int) / 262144).toNat = 0xF0 + n / 262144 by omega, show (128 + (n : Int) / 4096 % 64).toNat = 0x80 + n / 4096 % 64 by omega, show (128 + (n : Int) / 64 % 64).toNat = 0x80 + n / 64 % 64 by omega, show (128 + (n : Int) % 64).toNat = 0x80 + n % 64 by omega]
end Go.Proofs.YtapjfocjeligiaaGreatDoor
namespace Go.Proofs.YtapjfocjeligiaaGreatDoor
open Go.RowKit
set_option linter.unusedVariables false
set_option linter.unusedSimpArgs false

/-- what Quote writes between its quotes -/
def qb (zs : List Nat) : List UInt8 := zs.flatMap qd
theorem qb_cons (z : Nat) (r : List Nat) : qb (z :: r) = qd z ++ qb r := rfl
theorem qb_len (zs : List Nat) : (qb zs).length ≤ 6 * zs.length := by
  induction zs with
  | nil => exact Nat.le_refl _
  | cons z r ih =>
    have := (qd_len z).2
    rw [qb_cons, List.length_append, List.length_cons]; omega

theorem iterPos_of {w : World} {k : Nat} {s : ByteArray} {p : Nat} (h : w.heap[k]? = some (.stringIter s p)) : w.iterPos k = p := by simp [World.iterPos, h]
theorem drop_ne' {s : ByteArray} {p : Nat} (h : p < s.size) : s.data.toList.drop p ≠ [] := by
  intro e
  have := congrArg List.length e
  rw [List.length_drop, Array.length_toList, List.length_nil] at this
  have e2 : s.data.size = s.size := rfl
  omega
theorem step_le' {s : ByteArray} {p : Nat} (h : p < s.size) : p + (decL (s.data.toList.drop p)).2 ≤ s.size := by
  have := decL_le _ (drop_ne' h)
  rw [List.length_drop, Array.length_toList] at this
  have e2 : s.data.size = s.size := rfl
  omega
theorem drop_all' {s : ByteArray} {p : Nat} (h : ¬ p < s.size) : s.data.toList.drop p = [] := List.drop_eq_nil_of_le (by simp; omega)

/-- while Quote writes -/
structure QuSt (B k0 : Nat) (w wr : World) (v : Value) (n : Nat) (s : ByteArray) (pos : Nat) : Prop where
  iter : wr.heap[k0]? = some (.stringIter s pos)
  own : ∃ l, l.length = n ∧ wr.ownsRow B 5 1 v n (Lib.byteCells l) ∧ l ++ qb (runes (s.data.toList.drop pos)) = 34 :: qb (runes s.data.toList)
  below : Below B w wr
end Go.Proofs.YtapjfocjeligiaaGreatDoor
namespace Go.Proofs.YtapjfocjeligiaaGreatDoor
open Go.RowKit
set_option linter.unusedVariables false
set_option linter.unusedSimpArgs false

/-- a byte as the reference writes it in a literal -/
def hxB (n : UInt8) : UInt8 := if n < 10 then 48 + n else 97 + n - 10
def bq (b : UInt8) : List UInt8 := if b = 34 ∨ b = 92 then [92, b] else if b = 8 then [92, 98] else if b = 12 then [92, 102] else if b = 10 then [92, 110] else if b = 13 then [92, 114] else if b = 9 then [92, 116] else if b < 32 ∨ b = 127 then [92, 117, 48, 48, hxB (b >>> 4), hxB (b &&& 15)] else [b]
theorem bq_len (b : UInt8) : (bq b).length ≤ 6 := by unfold bq; repeat' split
                                                     all_goals simp
theorem bq_low : ∀ n, n < 128 → bq (UInt8.ofNat n) = qd n := by decide +kernel
theorem bq_high {b : UInt8} (h : 128 ≤ b.toNat) : bq b = [b] := by
  have e : ∀ k : Nat, k < 128 → ¬ b = UInt8.ofNat k := by
    intro k hk hb
    have h2 : (UInt8.ofNat k).toNat = k := ofNat_small (by omega)
    rw [hb, h2] at h
    omega
  unfold bq
  rw [if_neg (by rintro (h1 | h1); exact e 34 (by omega) h1; exact e 92 (by omega) h1), if_neg (show ¬ b = 8 from e 8 (by omega)), if_neg (show ¬ b = 12 from e 12 (by omega)), if_neg (show ¬ b = 10 from e 10 (by omega)), if_neg (show ¬ b = 13 from e 13 (by omega)), if_neg (show ¬ b = 9 from e 9 (by omega)), if_neg ?_]
  rintro (h1 | h1)
  · have : b.toNat < 32 := by simpa [UInt8.lt_iff_toNat_lt] using h1
    omega
  · exact e 127 (by omega) h1
theorem enc_high {n : Nat} (hn : isR n) (h : 128 ≤ n) : ∀ b ∈ enc n, 128 ≤ b.toNat := by
  unfold isR at hn
  unfold enc
  rw [if_neg (by omega)]
  intro b hb
  split at hb
  · simp only [List.mem_cons, List.not_mem_nil, or_false] at hb
    rcases hb with rfl | rfl <;> rw [ofNat_small (by omega)] <;> omega
  · split at hb
    · simp only [List.mem_cons, List.not_mem_nil, or_false] at hb
      rcases hb with rfl | rfl | rfl <;> rw [ofNat_small (by omega)] <;> omega
    · simp only [List.mem_cons, List.not_mem_nil, or_false] at hb
      rcases hb with rfl | rfl | rfl | rfl <;> rw [ofNat_small (by omega)] <;> omega
theorem flat_id : ∀ (l : List UInt8), (∀ b ∈ l, 128 ≤ b.toNat) → l.flatMap bq = l
  | [], _ => rfl
  | b :: r, h => by rw [List.flatMap_cons, bq_high (h b (List.mem_cons_self ..)), flat_id r (fun x hx => h x (List.mem_cons_of_mem _ hx))]; rfl
theorem sgn_big {n : Nat} (h : 128 ≤ n) : sgn n = none := by
  unfold sgn
  rw [if_neg (by omega), if_neg (by omega), if_neg (by omega), if_neg (by omega), if_neg (by omega), if_neg (by omega), if_neg (by omega)]
theorem bq_enc (n : Nat) (hn : isR n) : (enc n).flatMap bq = qd n := by
  by_cases h : n < 128
  · have e : enc n = [UInt8.ofNat n] := by unfold enc; rw [if_pos h]
    rw [e, List.flatMap_cons, bq_low n h]; simp
  · rw [flat_id _ (enc_high hn (by omega))]
    unfold qd
    rw [sgn_big (by omega)]
    simp only []
    rw [if_neg (by omega)]
theorem bq_runes (l : List UInt8) (h : okB l = true) : l.flatMap bq = qb (runes l) := by
  have e : txt (runes l) = l := by unfold okB at h; simpa using h
  have key : ∀ zs : List Nat, (∀ z ∈ zs, isR z) → (txt zs).flatMap bq = qb zs := by
    intro zs
    induction zs with
    | nil => intro _; rfl
    | cons z r ih =>
      intro hz
      show ((z :: r).flatMap enc).flatMap bq = _
      rw [List.flatMap_cons, List.flatMap_append, bq_enc z (hz z (List.mem_cons_self ..)), qb_cons]
      exact congrArg _ (ih (fun x hx => hz x (List.mem_cons_of_mem _ hx)))
  have := key (runes l) (runes_isR l)
  rw [e] at this
  exact this

/-- a literal -/
def wQ (l : List UInt8) : List UInt8 := 34 :: (qb (runes l) ++ [34])
theorem wQ_len (l : List UInt8) : (wQ l).length ≤ 6 * l.length + 2 := by
  have h1 := qb_len (runes l)
  have h2 := runes_len_le l
  simp [wQ]; omega

/-- pieces one behind the other -/
def joinR (g : Nat → List UInt8) : Nat → List UInt8
  | 0 => []
  | k + 1 => joinR g k ++ g k
theorem joinR_len (g : Nat → List UInt8) (b : Nat → Nat) : ∀ k, (∀ i, i < k → (g i).length ≤ b i) → (joinR g k).length ≤ sumL ((List.range k).map b)
  | 0, _ => by simp [joinR]
  | k + 1, h => by
    have := joinR_len g b k (fun i hi => h i (by omega))
    have h2 := h k (by omega)
    rw [List.range_succ, List.map_append, sumL_append]
    simp [joinR, sumL]; omega
theorem joinR_congr {g g' : Nat → List UInt8} : ∀ {k}, (∀ i, i < k → g i = g' i) → joinR g k = joinR g' k
  | 0, _ => rfl
  | k + 1, h => by simp only [joinR]; rw [joinR_congr (fun i hi => h i (by omega)), h k (by omega)]

/-- a line's end and its blanks, where the text is laid (step) -/
def lnW (st : Option Nat) (d : Nat) : List UInt8 := match st with
  | none => []
  | some s => 10 :: List.replicate (d * s) 32
def clW (st : Option Nat) : List UInt8 := match st with
  | none => [58]
  | some _ => [58, 32]
def sepW (o : UInt8) (i : Nat) : List UInt8 := if i = 0 then [o] else [44]
/-- what stands ahead of an item, and the item -/
def pcW (o : UInt8) (ln : List UInt8) (nm it : Nat → List UInt8) (i : Nat) : List UInt8 := (sepW o i ++ ln ++ nm i) ++ it i
def rowW (o c : UInt8) (ln1 ln0 : List UInt8) (nm it : Nat → List UInt8) (N : Nat) : List UInt8 := if N = 0 then [o, c] else joinR (pcW o ln1 nm it) N ++ (ln0 ++ [c])
def nmW (T : VT) (st : Option Nat) (i : Nat) : List UInt8 := if T.kind = 6 then wQ (T.keys.getD i .empty).data.toList ++ clW st else []
/-- the text of a value -/
def wrV (st : Option Nat) : Nat → Nat → VT → List UInt8
  | 0, _, _ => []
  | h + 1, d, T =>
    if T.kind = 0 then [110, 117, 108, 108] else if T.kind = 1 then [102, 97, 108, 115, 101] else if T.kind = 2 then [116, 114, 117, 101] else if T.kind = 3 then T.num.data.toList else if T.kind = 4 then wQ T.text.data.toList
    else rowW (if T.kind = 6 then 123 else 91) (if T.kind = 6 then 125 else 93) (lnW st (d + 1)) (lnW st d) (nmW T st) (fun i => (T.items[i]?.map (wrV st h (d + 1))).getD []) T.items.length

/-- all strings of a tree are short -/
def ShV : Nat → VT → Prop
  | 0, _ => True
  | h + 1, T => T.num.size ≤ 1048576 ∧ T.text.size ≤ 1048576 ∧ (∀ k ∈ T.keys, k.size ≤ 1048576) ∧ ∀ t ∈ T.items, ShV h t
theorem lnW_len (st : Option Nat) (d : Nat) (hs : ∀ s, st = some s → s ≤ 8) : (lnW st d).length ≤ 1 + 8 * d := by
  unfold lnW
  split
  · simp
  · rename_i s
    have h := hs s rfl
    have : d * s ≤ d * 8 := Nat.mul_le_mul_left d h
    simp; omega
theorem clW_len (st : Option Nat) : (clW st).length ≤ 2 := by unfold clW; split <;> simp
theorem sepW_len (o : UInt8) (i : Nat) : (sepW o i).length = 1 := by unfold sepW; split <;> rfl
theorem sum_const (c : Nat) (l : List Nat) (f : Nat → Nat) : sumL (l.map fun i => c + f i) = c * l.length + sumL (l.map f) := by
  induction l with
  | nil => simp [sumL]
  | cons a r ih => simp only [List.map_cons, sumL, List.length_cons, ih, Nat.mul_succ]; omega
end Go.Proofs.YtapjfocjeligiaaGreatDoor
namespace Go.Proofs.YtapjfocjeligiaaGreatDoor
open Go.ChangeShapes Go.WideShapes Go.RowKit
set_option linter.unusedVariables false

theorem bulk_mem {H : Type} {d : DataW H} : ∀ {l : List (DataW H)}, d ∈ l → Rows.uptoBulk d ≤ Rows.uptoBulkAll l
  | a :: r, h => by
    simp only [Rows.uptoBulkAll]
    rcases List.mem_cons.1 h with rfl | h
    · omega
    · have := bulk_mem h; omega
theorem InH.shUp {W : World} : ∀ {n m : Nat} {T : VT} {v : Value}, InH W n T v → ShV n T → n ≤ m → ShV m T
  | 0, _, _, _, h, _, _ => h.elim
  | n + 1, 0, _, _, _, _, hm => by omega
  | n + 1, m + 1, T, v, hI, hS, hm => by
    obtain ⟨z1, z2, z3, z4⟩ := hS
    refine ⟨z1, z2, z3, fun t ht => ?_⟩
    obtain ⟨io, icap, ko, kcap, e, a1, a2, a3, a4, a5, a6, a7, hk, hi⟩ := hI
    obtain ⟨i, hil, rfl⟩ := List.getElem_of_mem ht
    obtain ⟨b, off, e2, hl, hc⟩ := hi (by omega)
    obtain ⟨v0, v1, v2, v3, v4, _, hT⟩ := hc i hil
    exact hT.shUp (z4 _ (List.getElem_mem hil)) (by omega)

section
variable {H : Type} {enc : TypeId × Value → H} {W : World}

set_option maxRecDepth 100000 in
theorem vt_openS : ∀ (fuel : Nat) (cs : List Value) (x : DataW H × List MemPlace), DataW.trod enc Tryz.prog W 0 (fun _ => true) true fuel 37 cs = some x → WtOk (x.1.weights Tryz.prog 37) → Rows.uptoBulk x.1 ≤ 1048576 →
    ∃ (T : VT) (v0 v1 v2 v3 v4 : Value), cs = [v0, v1, v2, v3, v4] ∧ InH W fuel T (.agg #[v0, v1, v2, v3, v4]) ∧ ShV fuel T := by
  intro fuel
  induction fuel using Nat.strongRecOn with
  | ind fuel ih =>
  intro cs x h hw hbk
  obtain ⟨xs, m, hfu, hx, hl, hn, hi⟩ := DataW.trod_struct Tryz.underlying37 h
  rw [g_cellsV] at hl
  have hn5 : xs.length = 5 := hn
  have h0 := hi 0 _ rfl
  have h1 := hi 1 _ rfl
  have h2 := hi 2 _ rfl
  have h3 := hi 3 _ rfl
  have h4 := hi 4 _ rfl
  match xs, hn5, cs, hl with
  | [y0, y1, y2, y3, y4], _, [v0, v1, v2, v3, v4], _ =>
    simp [g_cells3, g_cells9, g_cellsVs, g_cellsSs] at h0 h1 h2 h3 h4
    have hbk' : Rows.uptoBulk y1.1 ≤ 1048576 ∧ Rows.uptoBulk y2.1 ≤ 1048576 ∧ Rows.uptoBulk y3.1 ≤ 1048576 ∧ Rows.uptoBulk y4.1 ≤ 1048576 := by
      rw [hx] at hbk
      simp only [List.map_cons, List.map_nil, Rows.uptoBulk, Rows.uptoBulkAll] at hbk
      omega
    have hw' : WtOk (y1.1.weights Tryz.prog 9 ++ (y2.1.weights Tryz.prog 9 ++ (y3.1.weights Tryz.prog 35 ++ y4.1.weights Tryz.prog 25))) := by
      intro y hy
      apply hw y
      rw [hx]
      simp only [DataW.weights, Tryz.underlying37, List.map_cons, List.map_nil, DataW.weightsEach, List.append_nil]
      exact List.mem_append.2 (.inr hy)
    obtain ⟨k, e0, _, _⟩ := DataW.trod_int Tryz.underlying3 h0
    obtain ⟨nm, e1, d1, _⟩ := DataW.trod_string Tryz.underlying9 h1
    obtain ⟨tx, e2, d2, _⟩ := DataW.trod_string Tryz.underlying9 h2
    obtain ⟨ko, kcap, keys, Dk, spk, e4, hkc, hkin, hkd⟩ := keys_open h4
    have e0' : v0 = .int .i64 k := by simpa using e0
    have e1' : v1 = .string nm := by simpa using e1
    have e2' : v2 = .string tx := by simpa using e2
    have e4' : v4 = .slice ko keys.length kcap := by simpa using e4
    have s1 : nm.size ≤ 140737488355328 := by
      have := hw' nm.data.toList.length (by rw [d1]; simp [DataW.weights])
      rw [Array.length_toList] at this
      exact this
    have s2 : tx.size ≤ 140737488355328 := by
      have := hw' tx.data.toList.length (by rw [d2]; simp [DataW.weights])
      rw [Array.length_toList] at this
      exact this
    have z1 : nm.size ≤ 1048576 := by
      have := hbk'.1
      rw [d1] at this
      simp only [Rows.uptoBulk] at this
      rw [Array.length_toList] at this
      show nm.data.size ≤ _
      omega
    have z2 : tx.size ≤ 1048576 := by
      have := hbk'.2.1
      rw [d2] at this
      simp only [Rows.uptoBulk] at this
      rw [Array.length_toList] at this
      show tx.data.size ≤ _
      omega
    have z4 : ∀ k ∈ keys, k.size ≤ 1048576 := by
      rcases hkd with ⟨_, rfl⟩ | ⟨hd, hdi⟩
      · simp
      · intro kk hk
        obtain ⟨i, hil, rfl⟩ := List.getElem_of_mem hk
        have hgd : keys.getD i ByteArray.empty = keys[i] := by simp [List.getD, hil]
        have h1 := hbk'.2.2.2
        rw [hd] at h1
        simp only [Rows.uptoBulk] at h1
        have h2 := bulk_mem (H := H) (d := Dk i) (l := (List.range keys.length).map Dk) (List.mem_map.2 ⟨i, List.mem_range.2 hil, rfl⟩)
        rw [hdi i hil, hgd] at h2
        simp only [Rows.uptoBulk] at h2
        rw [Array.length_toList] at h2
        show keys[i].data.size ≤ _
        omega
    have s4 : keys.length ≤ 140737488355328 ∧ ∀ k ∈ keys, k.size ≤ 140737488355328 := by
      rcases hkd with ⟨_, rfl⟩ | ⟨hd, hdi⟩
      · exact ⟨by simp, by simp⟩
      · have hb : Tryz.prog.bytesOf 9 = 16 := by kernel_rfl
        constructor
        · have := hw' ((keys.length + spk.length) * 16) (by rw [hd]; simp [DataW.weights, Tryz.underlying25, hb])
          omega
        · intro kk hk
          obtain ⟨i, hil, rfl⟩ := List.getElem_of_mem hk
          have hgd : keys.getD i ByteArray.empty = keys[i] := by simp [List.getD, hil]
          have := hw' keys[i].data.toList.length (by
            rw [hd]
            simp only [DataW.weights, Tryz.underlying25]
            refine List.mem_append.2 (.inr (List.mem_append.2 (.inr (List.mem_append.2 (.inr (List.mem_cons.2 (.inr (List.mem_append.2 (.inl ?_)))))))))
            refine mem_wAll (d := Dk i) (List.mem_map.2 ⟨i, List.mem_range.2 hil, rfl⟩) ?_
            rw [hdi i hil, hgd]; simp [DataW.weights])
          rw [Array.length_toList] at this
          exact this
    rcases elems_open Tryz.underlying35 h3 with ⟨e3, _⟩ | ⟨a, len, cap, n, elems, sp, hfn, e3, hlc, hel, hd, hcell⟩
    · have e3' : v3 = .slice none 0 0 := by simpa using e3
      subst e0' e1' e2' e3' e4'
      refine ⟨.mk k nm tx [] keys, _, _, _, _, _, rfl, ?_⟩
      rw [hfu]
      exact ⟨⟨none, 0, ko, kcap, rfl, s1, s2, by simp [VT.items], s4.1, by simp [VT.items], hkc, s4.2, hkin, fun h => by simp [VT.items] at h⟩, z1, z2, z4, fun t ht => by simp [VT.items] at ht⟩
    · have e3' : v3 = .slice (some a) len cap := by simpa using e3
      have hbV : Tryz.prog.bytesOf 37 = 88 := by kernel_rfl
      have s3 : len ≤ 140737488355328 := by
        have := hw' ((elems.length + sp.length) * 88) (by rw [hd]; simp [DataW.weights, Tryz.underlying35, hbV])
        omega
      have hchild : ∀ i, i < len → ∃ T : VT, ∃ v0 v1 v2 v3 v4 : Value, (W.cell? (a.add (i * 5)) = some v0 ∧ W.cell? (a.add (i * 5 + 1)) = some v1 ∧ W.cell? (a.add (i * 5 + 2)) = some v2 ∧ W.cell? (a.add (i * 5 + 3)) = some v3 ∧ W.cell? (a.add (i * 5 + 4)) = some v4) ∧ InH W m T (.agg #[v0, v1, v2, v3, v4]) ∧ ShV m T := by
        intro i hil
        obtain ⟨cs', ps, hc1, hc2⟩ := hcell i (by omega)
        rw [g_cellsV] at hc1
        obtain ⟨T, u0, u1, u2, u3, u4, rfl, hT, hTs⟩ := ih n (by omega) cs' _ hc2 (by
          intro y hy
          apply hw' y
          rw [hd]
          simp only [DataW.weights, Tryz.underlying35]
          refine List.mem_append.2 (.inr (List.mem_append.2 (.inr (List.mem_append.2 (.inl (List.mem_cons.2 (.inr (List.mem_append.2 (.inl ?_)))))))))
          exact mem_wAll (List.getElem_mem (by omega)) hy) (by
          have h1 := hbk'.2.2.1
          rw [hd] at h1
          simp only [Rows.uptoBulk] at h1
          have h2 := bulk_mem (H := H) (d := elems[i]) (l := elems) (List.getElem_mem (by omega))
          show Rows.uptoBulk elems[i] ≤ _
          omega)
        obtain ⟨_, _, hcc⟩ := World.cells?_some hc1
        refine ⟨T, u0, u1, u2, u3, u4, ⟨?_, ?_, ?_, ?_, ?_⟩, hT.le (by omega), hT.shUp hTs (by omega)⟩
        · have := hcc 0 (by omega); rw [Go.Deep.add_add] at this; simpa using this
        · have := hcc 1 (by omega); rw [Go.Deep.add_add] at this; simpa using this
        · have := hcc 2 (by omega); rw [Go.Deep.add_add] at this; simpa using this
        · have := hcc 3 (by omega); rw [Go.Deep.add_add] at this; simpa using this
        · have := hcc 4 (by omega); rw [Go.Deep.add_add] at this; simpa using this
      obtain ⟨Ts, hTs⟩ := Go.Deep.choose_lt hchild
      subst e0' e1' e2' e3' e4'
      refine ⟨.mk k nm tx ((List.range len).map Ts) keys, _, _, _, _, _, rfl, ?_⟩
      rw [hfu]
      have hitl : (VT.mk k nm tx ((List.range len).map Ts) keys).items.length = len := by simp [VT.items]
      refine ⟨⟨some a, cap, ko, kcap, by rw [hitl]; rfl, s1, s2, by rw [hitl]; exact s3, s4.1, by rw [hitl]; exact hlc, hkc, s4.2, hkin, fun hp => ?_⟩, z1, z2, z4, fun t ht => by
        obtain ⟨i, hi2, rfl⟩ := List.mem_map.1 (show t ∈ (List.range len).map Ts from ht)
        obtain ⟨_, _, _, _, _, _, _, hh⟩ := hTs i (List.mem_range.1 hi2)
        exact hh⟩
      rw [hitl] at hp
      obtain ⟨w0, w1, w2, w3, w4, ⟨c0, _⟩, _⟩ := hTs 0 hp
      obtain ⟨b, off, spot⟩ := a
      have hspot : spot = none := by simpa [Addr.add] using World.cell?_spot c0
      subst hspot
      refine ⟨b, off, rfl, ?_, fun i hil => ?_⟩
      · have := World.block_lt_of_cell? W _ c0
        simpa [Addr.add] using this
      · rw [hitl] at hil
        obtain ⟨u0, u1, u2, u3, u4, ⟨c0, c1, c2, c3, c4⟩, hT, _⟩ := hTs i hil
        have hit : (VT.mk k nm tx ((List.range len).map Ts) keys).items[i]'(by rw [hitl]; exact hil) = Ts i := by simp [VT.items]
        rw [hit]
        rw [Go.WideShapes.add_plain] at c0 c1 c2 c3 c4
        refine ⟨u0, u1, u2, u3, u4, ⟨c0, ?_, ?_, ?_, ?_⟩, hT⟩
        · rw [Nat.add_assoc]; exact c1
        · rw [Nat.add_assoc]; exact c2
        · rw [Nat.add_assoc]; exact c3
        · rw [Nat.add_assoc]; exact c4
end
end Go.Proofs.YtapjfocjeligiaaGreatDoor
namespace Go.Proofs.YtapjfocjeligiaaGreatDoor
open Go.ChangeShapes Go.WideShapes Go.RowKit
set_option linter.unusedVariables false

/-- all texts of a tree together -/
def blN : Nat → VT → Nat
  | 0, _ => 0
  | h + 1, T => T.num.size + T.text.size + sumL (T.keys.map fun k => k.size) + sumL (T.items.map (blN h))
theorem InH.blUp {W : World} : ∀ {n m : Nat} {T : VT} {v : Value}, InH W n T v → n ≤ m → blN m T = blN n T
  | 0, _, _, _, h, _ => h.elim
  | n + 1, 0, _, _, _, hm => absurd hm (by omega)
  | n + 1, m + 1, T, v, h, hm => by
    obtain ⟨io, icap, ko, kcap, e, a1, a2, a3, a4, a5, a6, a7, hk, hi⟩ := h
    have hs : sumL (T.items.map (blN m)) = sumL (T.items.map (blN n)) := sumL_congr T.items (fun t ht => by
      obtain ⟨i, hil, rfl⟩ := List.getElem_of_mem ht
      obtain ⟨b, off, _, _, hc⟩ := hi (by omega)
      obtain ⟨v0, v1, v2, v3, v4, _, hT⟩ := hc i hil
      exact hT.blUp (by omega))
    show _ + sumL (T.items.map (blN m)) = _ + sumL (T.items.map (blN n))
    rw [hs]
theorem sum_getD (xs : List ByteArray) (f : ByteArray → Nat) : sumL ((List.range xs.length).map fun i => f (xs.getD i .empty)) = sumL (xs.map f) := by
  congr 1
  apply List.ext_getElem
  · simp
  · intro i h1 h2
    simp at h1
    simp [List.getD, h1]

section
variable {H : Type} {enc : TypeId × Value → H} {W : World}

set_option maxRecDepth 100000 in
theorem vt_openT : ∀ (fuel : Nat) (cs : List Value) (x : DataW H × List MemPlace), DataW.trod enc Tryz.prog W 0 (fun _ => true) true fuel 37 cs = some x → WtOk (x.1.weights Tryz.prog 37) → Rows.uptoBulk x.1 ≤ 1048576 →
    ∃ (T : VT) (v0 v1 v2 v3 v4 : Value), cs = [v0, v1, v2, v3, v4] ∧ InH W fuel T (.agg #[v0, v1, v2, v3, v4]) ∧ ShV fuel T ∧ blN fuel T ≤ Rows.uptoBulk x.1 := by
  intro fuel
  induction fuel using Nat.strongRecOn with
  | ind fuel ih =>
  intro cs x h hw hbk
  obtain ⟨xs, m, hfu, hx, hl, hn, hi⟩ := DataW.trod_struct Tryz.underlying37 h
  rw [g_cellsV] at hl
  have hn5 : xs.length = 5 := hn
  have h0 := hi 0 _ rfl
  have h1 := hi 1 _ rfl
  have h2 := hi 2 _ rfl
  have h3 := hi 3 _ rfl
  have h4 := hi 4 _ rfl
  match xs, hn5, cs, hl with
  | [y0, y1, y2, y3, y4], _, [v0, v1, v2, v3, v4], _ =>
    simp [g_cells3, g_cells9, g_cellsVs, g_cellsSs] at h0 h1 h2 h3 h4
    have hbk' : Rows.uptoBulk y1.1 ≤ 1048576 ∧ Rows.uptoBulk y2.1 ≤ 1048576 ∧ Rows.uptoBulk y3.1 ≤ 1048576 ∧ Rows.uptoBulk y4.1 ≤ 1048576 := by
      rw [hx] at hbk
      simp only [List.map_cons, List.map_nil, Rows.uptoBulk, Rows.uptoBulkAll] at hbk
      omega
    have hbs : Rows.uptoBulk y1.1 + Rows.uptoBulk y2.1 + Rows.uptoBulk y3.1 + Rows.uptoBulk y4.1 ≤ Rows.uptoBulk x.1 := by
      rw [hx]
      simp only [List.map_cons, List.map_nil, Rows.uptoBulk, Rows.uptoBulkAll]
      omega
    have hw' : WtOk (y1.1.weights Tryz.prog 9 ++ (y2.1.weights Tryz.prog 9 ++ (y3.1.weights Tryz.prog 35 ++ y4.1.weights Tryz.prog 25))) := by
      intro y hy
      apply hw y
      rw [hx]
      simp only [DataW.weights, Tryz.underlying37, List.map_cons, List.map_nil, DataW.weightsEach, List.append_nil]
      exact List.mem_append.2 (.inr hy)
    obtain ⟨k, e0, _, _⟩ := DataW.trod_int Tryz.underlying3 h0
    obtain ⟨nm, e1, d1, _⟩ := DataW.trod_string Tryz.underlying9 h1
    obtain ⟨tx, e2, d2, _⟩ := DataW.trod_string Tryz.underlying9 h2
    obtain ⟨ko, kcap, keys, Dk, spk, e4, hkc, hkin, hkd⟩ := keys_open h4
    have e0' : v0 = .int .i64 k := by simpa using e0
    have e1' : v1 = .string nm := by simpa using e1
    have e2' : v2 = .string tx := by simpa using e2
    have e4' : v4 = .slice ko keys.length kcap := by simpa using e4
    have s1 : nm.size ≤ 140737488355328 := by
      have := hw' nm.data.toList.length (by rw [d1]; simp [DataW.weights])
      rw [Array.length_toList] at this
      exact this
    have s2 : tx.size ≤ 140737488355328 := by
      have := hw' tx.data.toList.length (by rw [d2]; simp [DataW.weights])
      rw [Array.length_toList] at this
      exact this
    have u1 : nm.size ≤ Rows.uptoBulk y1.1 := by
      rw [d1]
      simp only [Rows.uptoBulk]
      rw [Array.length_toList]
      show nm.data.size ≤ _
      omega
    have u2 : tx.size ≤ Rows.uptoBulk y2.1 := by
      rw [d2]
      simp only [Rows.uptoBulk]
      rw [Array.length_toList]
      show tx.data.size ≤ _
      omega
    have u4 : sumL (keys.map fun k => k.size) ≤ Rows.uptoBulk y4.1 := by
      rcases hkd with ⟨_, rfl⟩ | ⟨hd, hdi⟩
      · exact Nat.zero_le _
      · have hb := bulk_sum (H := H) ((List.range keys.length).map Dk) (fun i => (keys.getD i ByteArray.empty).size) (by
          intro i hi
          have hil : i < keys.length := by simpa using hi
          rw [List.getElem_map, List.getElem_range, hdi i hil]
          simp only [Rows.uptoBulk]
          rw [Array.length_toList]
          show (keys.getD i ByteArray.empty).data.size ≤ _
          omega)
        rw [List.length_map, List.length_range, sum_getD keys (fun k => k.size)] at hb
        rw [hd]
        simp only [Rows.uptoBulk]
        omega
    have z1 : nm.size ≤ 1048576 := by
      have := hbk'.1
      rw [d1] at this
      simp only [Rows.uptoBulk] at this
      rw [Array.length_toList] at this
      show nm.data.size ≤ _
      omega
    have z2 : tx.size ≤ 1048576 := by
      have := hbk'.2.1
      rw [d2] at this
      simp only [Rows.uptoBulk] at this
      rw [Array.length_toList] at this
      show tx.data.size ≤ _
      omega
    have z4 : ∀ k ∈ keys, k.size ≤ 1048576 := by
      rcases hkd with ⟨_, rfl⟩ | ⟨hd, hdi⟩
      · simp
      · intro kk hk
        obtain ⟨i, hil, rfl⟩ := List.getElem_of_mem hk
        have hgd : keys.getD i ByteArray.empty = keys[i] := by simp [List.getD, hil]
        have h1 := hbk'.2.2.2
        rw [hd] at h1
        simp only [Rows.uptoBulk] at h1
        have h2 := bulk_mem (H := H) (d := Dk i) (l := (List.range keys.length).map Dk) (List.mem_map.2 ⟨i, List.mem_range.2 hil, rfl⟩)
        rw [hdi i hil, hgd] at h2
        simp only [Rows.uptoBulk] at h2
        rw [Array.length_toList] at h2
        show keys[i].data.size ≤ _
        omega
    have s4 : keys.length ≤ 140737488355328 ∧ ∀ k ∈ keys, k.size ≤ 140737488355328 := by
      rcases hkd with ⟨_, rfl⟩ | ⟨hd, hdi⟩
      · exact ⟨by simp, by simp⟩
      · have hb : Tryz.prog.bytesOf 9 = 16 := by kernel_rfl
        constructor
        · have := hw' ((keys.length + spk.length) * 16) (by rw [hd]; simp [DataW.weights, Tryz.underlying25, hb])
          omega
        · intro kk hk
          obtain ⟨i, hil, rfl⟩ := List.getElem_of_mem hk
          have hgd : keys.getD i ByteArray.empty = keys[i] := by simp [List.getD, hil]
          have := hw' keys[i].data.toList.length (by
            rw [hd]
            simp only [DataW.weights, Tryz.underlying25]
            refine List.mem_append.2 (.inr (List.mem_append.2 (.inr (List.mem_append.2 (.inr (List.mem_cons.2 (.inr (List.mem_append.2 (.inl ?_)))))))))
            refine mem_wAll (d := Dk i) (List.mem_map.2 ⟨i, List.mem_range.2 hil, rfl⟩) ?_
            rw [hdi i hil, hgd]; simp [DataW.weights])
          rw [Array.length_toList] at this
          exact this
    rcases elems_open Tryz.underlying35 h3 with ⟨e3, _⟩ | ⟨a, len, cap, n, elems, sp, hfn, e3, hlc, hel, hd, hcell⟩
    · have e3' : v3 = .slice none 0 0 := by simpa using e3
      subst e0' e1' e2' e3' e4'
      refine ⟨.mk k nm tx [] keys, _, _, _, _, _, rfl, ?_⟩
      rw [hfu]
      exact ⟨⟨none, 0, ko, kcap, rfl, s1, s2, by simp [VT.items], s4.1, by simp [VT.items], hkc, s4.2, hkin, fun h => by simp [VT.items] at h⟩, ⟨z1, z2, z4, fun t ht => by simp [VT.items] at ht⟩, by
        show nm.size + tx.size + sumL (keys.map fun k => k.size) + 0 ≤ _
        omega⟩
    · have e3' : v3 = .slice (some a) len cap := by simpa using e3
      have hbV : Tryz.prog.bytesOf 37 = 88 := by kernel_rfl
      have s3 : len ≤ 140737488355328 := by
        have := hw' ((elems.length + sp.length) * 88) (by rw [hd]; simp [DataW.weights, Tryz.underlying35, hbV])
        omega
      have hchild : ∀ i, i < len → ∃ T : VT, ∃ v0 v1 v2 v3 v4 : Value, (W.cell? (a.add (i * 5)) = some v0 ∧ W.cell? (a.add (i * 5 + 1)) = some v1 ∧ W.cell? (a.add (i * 5 + 2)) = some v2 ∧ W.cell? (a.add (i * 5 + 3)) = some v3 ∧ W.cell? (a.add (i * 5 + 4)) = some v4) ∧ InH W m T (.agg #[v0, v1, v2, v3, v4]) ∧ ShV m T ∧ ∃ hi : i < elems.length, blN m T ≤ Rows.uptoBulk elems[i] := by
        intro i hil
        obtain ⟨cs', ps, hc1, hc2⟩ := hcell i (by omega)
        rw [g_cellsV] at hc1
        obtain ⟨T, u0, u1, u2, u3, u4, rfl, hT, hTs, hTb⟩ := ih n (by omega) cs' _ hc2 (by
          intro y hy
          apply hw' y
          rw [hd]
          simp only [DataW.weights, Tryz.underlying35]
          refine List.mem_append.2 (.inr (List.mem_append.2 (.inr (List.mem_append.2 (.inl (List.mem_cons.2 (.inr (List.mem_append.2 (.inl ?_)))))))))
          exact mem_wAll (List.getElem_mem (by omega)) hy) (by
          have h1 := hbk'.2.2.1
          rw [hd] at h1
          simp only [Rows.uptoBulk] at h1
          have h2 := bulk_mem (H := H) (d := elems[i]) (l := elems) (List.getElem_mem (by omega))
          show Rows.uptoBulk elems[i] ≤ _
          omega)
        obtain ⟨_, _, hcc⟩ := World.cells?_some hc1
        refine ⟨T, u0, u1, u2, u3, u4, ⟨?_, ?_, ?_, ?_, ?_⟩, hT.le (by omega), hT.shUp hTs (by omega), by omega, by rw [hT.blUp (show n ≤ m by omega)]; exact hTb⟩
        · have := hcc 0 (by omega); rw [Go.Deep.add_add] at this; simpa using this
        · have := hcc 1 (by omega); rw [Go.Deep.add_add] at this; simpa using this
        · have := hcc 2 (by omega); rw [Go.Deep.add_add] at this; simpa using this
        · have := hcc 3 (by omega); rw [Go.Deep.add_add] at this; simpa using this
        · have := hcc 4 (by omega); rw [Go.Deep.add_add] at this; simpa using this
      obtain ⟨Ts, hTs⟩ := Go.Deep.choose_lt hchild
      subst e0' e1' e2' e3' e4'
      refine ⟨.mk k nm tx ((List.range len).map Ts) keys, _, _, _, _, _, rfl, ?_⟩
      rw [hfu]
      have hitl : (VT.mk k nm tx ((List.range len).map Ts) keys).items.length = len := by simp [VT.items]
      refine ⟨⟨some a, cap, ko, kcap, by rw [hitl]; rfl, s1, s2, by rw [hitl]; exact s3, s4.1, by rw [hitl]; exact hlc, hkc, s4.2, hkin, fun hp => ?_⟩, ⟨z1, z2, z4, fun t ht => by
        obtain ⟨i, hi2, rfl⟩ := List.mem_map.1 (show t ∈ (List.range len).map Ts from ht)
        obtain ⟨_, _, _, _, _, _, _, hh, _⟩ := hTs i (List.mem_range.1 hi2)
        exact hh⟩, by
        have hb := bulk_sum (H := H) elems (fun i => blN m (Ts i)) (by
          intro i hi
          obtain ⟨_, _, _, _, _, _, _, _, _, hh⟩ := hTs i (by omega)
          exact hh)
        have h3 : Rows.uptoBulkAll elems ≤ Rows.uptoBulk y3.1 := by
          rw [hd]
          simp only [Rows.uptoBulk]
          omega
        rw [hel] at hb
        have e : sumL (((List.range len).map Ts).map (blN m)) = sumL ((List.range len).map fun i => blN m (Ts i)) := by rw [List.map_map]; rfl
        show nm.size + tx.size + sumL (keys.map fun k => k.size) + sumL (((List.range len).map Ts).map (blN m)) ≤ _
        rw [e]
        omega⟩
      rw [hitl] at hp
      obtain ⟨w0, w1, w2, w3, w4, ⟨c0, _⟩, _⟩ := hTs 0 hp
      obtain ⟨b, off, spot⟩ := a
      have hspot : spot = none := by simpa [Addr.add] using World.cell?_spot c0
      subst hspot
      refine ⟨b, off, rfl, ?_, fun i hil => ?_⟩
      · have := World.block_lt_of_cell? W _ c0
        simpa [Addr.add] using this
      · rw [hitl] at hil
        obtain ⟨u0, u1, u2, u3, u4, ⟨c0, c1, c2, c3, c4⟩, hT, _, _⟩ := hTs i hil
        have hit : (VT.mk k nm tx ((List.range len).map Ts) keys).items[i]'(by rw [hitl]; exact hil) = Ts i := by simp [VT.items]
        rw [hit]
        rw [Go.WideShapes.add_plain] at c0 c1 c2 c3 c4
        refine ⟨u0, u1, u2, u3, u4, ⟨c0, ?_, ?_, ?_, ?_⟩, hT⟩
        · rw [Nat.add_assoc]; exact c1
        · rw [Nat.add_assoc]; exact c2
        · rw [Nat.add_assoc]; exact c3
        · rw [Nat.add_assoc]; exact c4
end
end Go.Proofs.YtapjfocjeligiaaGreatDoor
namespace Go.Proofs.YtapjfocjeligiaaGreatDoor
open Go.RowKit
set_option linter.unusedVariables false
set_option linter.unusedSimpArgs false

theorem sum_take_up {α : Type} (f : α → Nat) {ts : List α} {k : Nat} (hk : k < ts.length) : sumL ((ts.take (k + 1)).map f) = sumL ((ts.take k).map f) + f ts[k] := by
  rw [List.take_add_one, List.getElem?_eq_getElem hk, List.map_append, sumL_append]
  simp [sumL]

/-- what Parts answers, where it isn't cut short -/
def PtE (h : Nat) (T : VT) (most : Int) (w w' : World) (e : Ending) : Prop := ∃ p : Int, e = .returned (.int .i64 p) ∧ 0 ≤ p ∧ p ≤ most + 140737488355329 ∧ (p ≤ most → p = (szN h T : Int)) ∧ Below w.heap.size w w'
end Go.Proofs.YtapjfocjeligiaaGreatDoor
namespace Go.Proofs.YtapjfocjeligiaaGreatDoor
open Go.RowKit
set_option linter.unusedVariables false
set_option linter.unusedSimpArgs false

theorem sum_take_le {α : Type} (f : α → Nat) (ts : List α) (k : Nat) : sumL ((ts.take k).map f) ≤ sumL (ts.map f) := by
  conv => rhs; rw [← List.take_append_drop k ts, List.map_append, sumL_append]
  omega
/-- what Parts answers -/
def PtX (h : Nat) (T : VT) (most : Int) (w w' : World) (e : Ending) : Prop := ∃ p : Int, e = .returned (.int .i64 p) ∧ 0 ≤ p ∧ p ≤ most + 140737488355329 ∧ ((p ≤ most → p = (szN h T : Int)) ∧ (most < p → most < (szN h T : Int))) ∧ Below w.heap.size w w'
end Go.Proofs.YtapjfocjeligiaaGreatDoor
namespace Go.Proofs.YtapjfocjeligiaaGreatDoor
open Go.RowKit
set_option linter.unusedVariables false
set_option linter.unusedSimpArgs false

/-- what the kit's PartsOf answers -/
def PtK (h : Nat) (T : VT) (most : Int) (w w' : World) (e : Ending) : Prop := ∃ p : Int, e = .returned (.int .i64 p) ∧ 0 ≤ p ∧ p ≤ most + (most + 1) * 140737488355329 ∧ ((p ≤ most → p = (szN h T : Int)) ∧ (most < p → most < (szN h T : Int))) ∧ Below w.heap.size w w'

set_option maxRecDepth 100000 in
set_option maxHeartbeats 3200000 in
theorem w_PartsK : ∀ (h : Nat) (T : VT) (v : Value) (w : World) (most : Int), InH w h T v → 0 ≤ most → most ≤ 20000 → Calls Tryz.prog 30 #[v, .int .i64 most] w fun e w' => PtK h T most w w' e := by
  intro h
  induction h with
  | zero => intro T v w most hI; exact hI.elim
  | succ h ih =>
    intro T v w most hI h0 h1
    obtain ⟨io, icap, ko, kcap, rfl, a1, a2, a3, a4, a5, a6, a7, hk, hi⟩ := hI.open
    have HX := Hid.mk (vbx_new w (.int .i64 T.kind) (.string T.num) (.string T.text) (.slice io T.items.length icap) (.slice ko T.keys.length kcap))
    have HI := Hid.mk (hi.keep HX.out.below)
    have HIh := Hid.mk ih
    have HSZ : Hid (szN (h + 1) T = 1 + T.keys.length + sumL (T.items.map (szN h))) := rfl
    unfold PtK
    generalize szN (h + 1) T = SZ at HSZ ⊢
    generalize T.kind = kd at *
    generalize T.num = nm at *
    generalize T.text = tx at *
    obtain ⟨ts, hts⟩ : ∃ ts, T.items = ts := ⟨_, rfl⟩
    rw [hts] at HI HX a3 a5 HSZ ⊢
    obtain ⟨N, hN⟩ : ∃ N, ts.length = N := ⟨_, rfl⟩
    have HNN := Hid.mk hN
    rw [hN] at HX HI a3 a5 ⊢
    obtain ⟨K, hK⟩ : ∃ K, T.keys.length = K := ⟨_, rfl⟩
    rw [hK] at HX HI a4 a6 HSZ ⊢
    clear hi hk hI ih a7 hts hN hK
    obtain ⟨W0, hW0⟩ : ∃ W0, W0 = w.alloc (.cells #[.int .i64 kd, .string nm, .string tx, .slice io N icap, .slice ko K kcap] 37) := ⟨_, rfl⟩
    go_enter Tryz.func30, Tryz.ntmps30
    go_wp2_with fail
    rw [← hW0] at HX HI ⊢
    clear hW0
    go_loopw [5, 6] (fun nn i wr => ∃ (n : Int) (k : Nat), 1 ≤ n ∧ n ≤ most + most * 140737488355329 + 1 ∧ k ≤ N ∧ nn = .int .i64 n ∧ i = .int .i64 (k : Int) ∧ Hid (Below W0.heap.size W0 wr) ∧ Hid ((n ≤ most → n = 1 + ((sumL ((ts.take k).map (szN h)) : Nat) : Int)) ∧ (most < n → most < 1 + ((sumL ((ts.take k).map (szN h)) : Nat) : Int)))) (fun _ i _ => N - (intOf i).toNat)
    case atStart => exact ⟨1, 0, by omega, by omega, Nat.zero_le _, rfl, rfl, Below.refl _ _, fun _ => by simp [sumL], fun hh => by simp [sumL]; omega⟩
    case round =>
      obtain ⟨n, k, hn0, hn1, hk, rfl, rfl, HB, HS⟩ := hrel
      have HXw := Hid.mk (HX.out.keep HB.out)
      have g3 := HXw.out.c3
      have g4 := HXw.out.c4
      by_cases hlt : k < N
      · have hl1 : (k : Int) < (N : Int) := by omega
        by_cases hm : n ≤ most
        · obtain ⟨b, off, hio, hbl, hrow⟩ := (HI.out.keep HB.out).row (by rw [HNN.out]; omega)
          subst hio
          have hkt : k < ts.length := by rw [HNN.out]; exact hlt
          obtain ⟨v0, v1, v2, v3, v4, ⟨c0, c1, c2, c3, c4⟩, ht⟩ := hrow k hkt
          have HC := Hid.mk (HIh.out _ _ wr (most - n) ht (by omega) (by omega))
          unfold PtK at HC
          have HU := Hid.mk (sum_take_up (szN h) hkt)
          clear ht hrow hbl
          go_wp2_with fail
          refine HC.out.mono ?_
          rintro e w2 ⟨p, rfl, hp0, hp1, hp2, hb2⟩
          have HB2 := Hid.mk (below_more HB.out hb2)
          have HS2 : Hid ((n + p ≤ most → n + p = 1 + ((sumL ((ts.take (k + 1)).map (szN h)) : Nat) : Int)) ∧ (most < n + p → most < 1 + ((sumL ((ts.take (k + 1)).map (szN h)) : Nat) : Int))) := by
            have e2 := HS.out.1 hm
            have e3 := HU.out
            refine ⟨fun hle => ?_, fun hle => ?_⟩
            · have e1 := hp2.1 (by omega)
              omega
            · have e1 := hp2.2 (by omega)
              omega
          have hpb : n + p ≤ most + most * 140737488355329 + 1 := by omega
          clear hb2 c0 c1 c2 c3 c4 HC g3 g4 hp2 HU hkt
          go_wp2_with fail
          go_roundw
          case rel => exact ⟨n + p, k + 1, by omega, hpb, hlt, by go_num, by go_num, HB2, HS2⟩
          case measure => simp [intOf]; omega
        · have hm1 : ¬ n ≤ most := hm
          have HF0 : Hid ((n + (K : Int) ≤ most → n + (K : Int) = (SZ : Int)) ∧ (most < n + (K : Int) → most < (SZ : Int))) := by
            refine ⟨fun hh => by omega, fun hh => ?_⟩
            have e1 := HS.out.2 (by omega)
            have e2 := sum_take_le (szN h) ts k
            have e3 := HSZ.out
            omega
          go_wp2_with fail
          go_ret
          exact ⟨n + (K : Int), by go_num, by omega, by omega, HF0.out, HXw.out.below⟩
      · have hl1 : ¬ (k : Int) < (N : Int) := by omega
        have HF : Hid ((n + (K : Int) ≤ most → n + (K : Int) = (SZ : Int)) ∧ (most < n + (K : Int) → most < (SZ : Int))) := by
          have e2 := HNN.out
          have hkN : k = ts.length := by omega
          have e3 := HSZ.out
          by_cases hm : n ≤ most
          · have e1 := HS.out.1 hm
            rw [hkN, List.take_length] at e1
            refine ⟨fun hh => ?_, fun hh => ?_⟩ <;> omega
          · have e1 := HS.out.2 (by omega)
            rw [hkN, List.take_length] at e1
            refine ⟨fun hh => ?_, fun hh => ?_⟩ <;> omega
        go_wp2_with fail
        go_ret
        exact ⟨n + (K : Int), by go_num, by omega, by omega, HF.out, HXw.out.below⟩

set_option maxRecDepth 100000 in
set_option maxHeartbeats 1600000 in
theorem w_Fit (h : Nat) (io : Option Addr) (N icap : Nat) (ts : List VT) (w : World) (hts : ts.length = N) (hI : IIn w h io ts) (hN : N ≤ icap) (hN2 : N ≤ 140737488355328) :
    Calls Tryz.prog 15 #[.slice io N icap] w fun e w' => e = .returned (.bool (decide (sumL (ts.map (szN h)) ≤ 20000))) ∧ Below w.heap.size w w' := by
  have HNN := Hid.mk hts
  have HI := Hid.mk hI
  obtain ⟨SM, hSM⟩ : ∃ SM, sumL (ts.map (szN h)) = SM := ⟨_, rfl⟩
  have HSM := Hid.mk hSM
  rw [hSM]
  clear hts hI hSM
  go_enter Tryz.func15, Tryz.ntmps15
  go_wp2_with fail
  go_loopw [3, 4] (fun nn i wr => ∃ (n : Int) (k : Nat), 0 ≤ n ∧ n ≤ 20000 ∧ k ≤ N ∧ nn = .int .i64 n ∧ i = .int .i64 (k : Int) ∧ Hid (Below w.heap.size w wr) ∧ Hid (n = ((sumL ((ts.take k).map (szN h)) : Nat) : Int))) (fun _ i _ => N - (intOf i).toNat)
  case atStart => exact ⟨0, 0, by omega, by omega, Nat.zero_le _, rfl, rfl, Below.refl _ _, by show _ = _; simp [sumL]⟩
  case round =>
    obtain ⟨n, k, hn0, hn1, hk, rfl, rfl, HB, HS⟩ := hrel
    by_cases hlt : k < N
    · have hl1 : (k : Int) < (N : Int) := by omega
      obtain ⟨b, off, hio, hbl, hrow⟩ := (HI.out.keep HB.out).row (by rw [HNN.out]; omega)
      subst hio
      have hkt : k < ts.length := by rw [HNN.out]; exact hlt
      obtain ⟨v0, v1, v2, v3, v4, ⟨c0, c1, c2, c3, c4⟩, ht⟩ := hrow k hkt
      have HC := Hid.mk (w_PartsK _ _ _ wr (20000 - n) ht (by omega) (by omega))
      unfold PtK at HC
      have HU := Hid.mk (sum_take_up (szN h) hkt)
      have hle := sum_take_le (szN h) ts (k + 1)
      have HLe := Hid.mk hle
      clear ht hrow hbl hle
      go_wp2_with fail
      refine HC.out.mono ?_
      rintro e w2 ⟨p, rfl, hp0, hp1, hp2, hb2⟩
      have HB2 := Hid.mk (HB.out.trans (hb2.mono HB.out.size))
      have HP2 := Hid.mk hp2
      clear hb2 c0 c1 c2 c3 c4 HC hp2
      by_cases hgt : n + p ≤ 20000
      · have hg1 : ¬ 20000 < n + p := by omega
        have HS2 : Hid (n + p = ((sumL ((ts.take (k + 1)).map (szN h)) : Nat) : Int)) := by
          have e1 := HP2.out.1 (by omega)
          have e2 := HS.out
          have e3 := HU.out
          show _ = _
          omega
        go_wp2_with fail
        go_roundw
        case rel => exact ⟨n + p, k + 1, by omega, by omega, hlt, by go_num, by go_num, HB2, HS2⟩
        case measure => simp [intOf]; omega
      · have hg1 : 20000 < n + p := by omega
        have HF : Hid (decide (SM ≤ 20000) = false) := by
          have e1 := HP2.out.2 (by omega)
          have e2 := HS.out
          have e3 := HU.out
          have e4 := HLe.out
          have e5 := HSM.out
          show _ = _
          rw [decide_eq_false_iff_not]
          omega
        go_wp2_with fail
        go_ret
        exact ⟨by rw [HF.out]; rfl, HB2.out⟩
    · have hl1 : ¬ (k : Int) < (N : Int) := by omega
      have HF : Hid (decide (SM ≤ 20000) = true) := by
        have e2 := HNN.out
        have hkN : k = ts.length := by omega
        have e3 := HS.out
        rw [hkN, List.take_length, HSM.out] at e3
        show _ = _
        rw [decide_eq_true_iff]
        omega
      go_wp2_with fail
      go_ret
      exact ⟨by rw [HF.out]; rfl, HB.out⟩

theorem iin_one {W : World} {h b : Nat} {T : VT} {v0 v1 v2 v3 v4 : Value} (hb : W.heap[b]? = some (.cells #[v0, v1, v2, v3, v4] 37 (0, 0))) (hI : InH W h T (.agg #[v0, v1, v2, v3, v4])) : IIn W h (some ⟨b, 0, none⟩) [T] := by
  refine ⟨fun _ => ⟨b, 0, rfl, (Array.getElem?_eq_some_iff.1 hb).1, fun i hi => ?_⟩⟩
  obtain rfl : i = 0 := by simpa using hi
  exact ⟨v0, v1, v2, v3, v4, ⟨by rw [Lib.cell_of_heap hb]; rfl, by rw [Lib.cell_of_heap hb]; rfl, by rw [Lib.cell_of_heap hb]; rfl, by rw [Lib.cell_of_heap hb]; rfl, by rw [Lib.cell_of_heap hb]; rfl⟩, hI⟩
end Go.Proofs.YtapjfocjeligiaaGreatDoor
namespace Go.Proofs.YtapjfocjeligiaaGreatDoor
open Go.RowKit Go.Shelf Go.Sort
set_option linter.unusedVariables false
set_option linter.unusedSimpArgs false

theorem fm_item {h : Nat} {T : VT} (hf : formN (h + 1) T = true) : ∀ x ∈ T.items, formN h x = true := by
  rcases form_open hf with (rfl | rfl | rfl) | ⟨n, rfl, _⟩ | ⟨n, rfl, _⟩ | ⟨i, rfl, hi⟩ | ⟨i, ks, rfl, _, _, _, hi⟩
  · intro x hx; cases hx
  · intro x hx; cases hx
  · intro x hx; cases hx
  · intro x hx; cases hx
  · intro x hx; cases hx
  · exact hi
  · exact hi
theorem sz_pos {h : Nat} {T : VT} (hf : formN h T = true) : 1 ≤ szN h T := by
  cases h with
  | zero => cases hf
  | succ h => show 1 ≤ 1 + T.keys.length + _; omega
theorem sz_items {h : Nat} {T : VT} (hf : formN (h + 1) T = true) : T.items.length ≤ szN (h + 1) T := by
  have h1 := sumL_ge (f := szN h) T.items (fun t ht => sz_pos (fm_item hf t ht))
  show _ ≤ 1 + T.keys.length + _
  omega
theorem lead_len {r : Int} : ∀ (p : List VT) (V : VT) (h : Nat), formN h V = true → Lead r p V → p.length ≤ szN h V
  | [], V, h, hf, hl => Nat.zero_le _
  | s :: p, V, 0, hf, hl => by cases hf
  | s :: p, V, h + 1, hf, hl => by
    rcases hl with ⟨_, rfl, _⟩ | ⟨_, i, x, _, hx, hl⟩ | ⟨_, i, k, x, _, _, hx, hl⟩
    · show 1 ≤ 1 + V.keys.length + _; omega
    all_goals
      obtain ⟨hi, rfl⟩ := List.getElem?_eq_some_iff.1 hx
      have h1 := lead_len p _ h (fm_item hf _ (List.getElem_mem hi)) hl
      have h2 := szN_item (h := h) hi
      show p.length + 1 ≤ _
      omega
theorem bl_item {h : Nat} {T : VT} {i : Nat} (hi : i < T.items.length) : blN h T.items[i] ≤ blN (h + 1) T := by
  have h1 := sumL_mem (List.mem_map_of_mem (f := blN h) (List.getElem_mem hi))
  show _ ≤ _ + _ + _ + sumL (T.items.map (blN h))
  omega
theorem bl_key {h : Nat} {T : VT} {i : Nat} (hi : i < T.keys.length) : T.keys[i].size ≤ blN (h + 1) T := by
  have h1 := sumL_mem (List.mem_map_of_mem (f := fun k : ByteArray => k.size) (List.getElem_mem hi))
  show _ ≤ _ + _ + sumL (T.keys.map fun k => k.size) + _
  omega
/-- where the law stands on its way -/
def At (u : World) (r : Int) (rest : List VT) (xv : Value) : Prop := ∃ (h : Nat) (X : VT), InH u h X xv ∧ formN h X = true ∧ szN h X ≤ 20000 ∧ blN h X ≤ 16777216 ∧ Lead r rest X

theorem d30 : ((1073741824 : Nat) : Int) = 1073741824 := rfl
theorem step_T (h : Nat) (V : VT) (i : Nat) (k : ByteArray) (vv kv : Value) (w0 w : World) (hu0 : Below w0.heap.size w0 w) (hI : InH w0 (h + 1) V vv) (hf : formN (h + 1) V = true) (h6 : V.kind = 6) (hb : blN (h + 1) V ≤ 16777216) (hk : V.keys[i]? = some k) (hi : i < V.items.length) (hK : InH w 1 (stT k) kv) :
    Calls Tryz.prog 16 #[vv, kv] w fun e w' => (∃ y0 y1 y2 y3 y4, e = .returned (.tuple #[.agg #[y0, y1, y2, y3, y4], .bool true]) ∧ InH w0 h V.items[i] (.agg #[y0, y1, y2, y3, y4])) ∧ Below w.heap.size w w' := by
  obtain ⟨hik, rfl⟩ := List.getElem?_eq_some_iff.1 hk
  obtain ⟨io, ic, ko, kc, rfl, _⟩ := hK.open
  obtain ⟨vo, vc, uo, uc, rfl, a1, a2, a3, a4, a5, a6, a7, hkn, hin⟩ := hI.open
  rw [h6]
  have hr : rK V.keys V.keys.length = true ∧ oK V.keys V.keys.length = true := by
    rcases form_open hf with (rfl | rfl | rfl) | ⟨n, rfl, _⟩ | ⟨n, rfl, _⟩ | ⟨i, rfl, hi⟩ | ⟨i, ks, rfl, _, h1, h2, _⟩
    all_goals first | exact ⟨h1, h2⟩ | (simp [VT.kind] at h6)
  have eg : ∀ j, (hj : j < V.keys.length) → V.keys.getD j .empty = V.keys[j] := fun j hj => by simp [List.getD, hj]
  have hok : okB V.keys[i].data.toList = true := by
    have := List.all_eq_true.1 hr.2 i (List.mem_range.2 hik)
    rw [eg i hik] at this
    exact this
  have hs := bl_key (h := h) hik
  have hR : ∀ u, Calls Tryz.prog 98 #[.agg #[.int .i64 4, .string ⟨#[]⟩, .string V.keys[i], .slice io 0 ic, .slice ko 0 kc], .int .i64 1073741824] u fun e w' => e = .returned (.bool true) ∧ Below u.heap.size u w' := fun u => by
    have := w_5RightT V.keys[i] hok (by omega) 1073741824 io ko ic kc u
    rw [d30] at this
    exact this
  exact w_8StepT h V.items i hi _ _ vo V.items.length vc uo V.keys.length uc ⟨#[]⟩ V.keys[i] io ic ko kc w0 w hu0 hin rfl a5 a3
    (fun u => w_8FitsT _ _ vo uo _ _ vc uc ⟨#[]⟩ V.keys[i] io ko ic kc u (fun u => w_8IsKeyT ⟨#[]⟩ V.keys[i] io ko ic kc u (fun u => w_8Right 4 ⟨#[]⟩ V.keys[i] io ko ic kc u hR)))
    (fun u hu => w_8FindT V.keys i _ _ vo _ vc uo _ uc ⟨#[]⟩ V.keys[i] io ic ko kc u (hkn.keep (hu0.trans (hu.mono hu0.size))) rfl a6 a4 hik (by rw [eg i hik]) (fun j hj => by
      rw [eg j (by omega)]
      intro e
      have := rise_ltB hr.1 i hik j hj
      rw [e] at this
      exact absurd this (List.lt_irrefl _)))
theorem dig_text (i : Nat) : (∀ q (h : q < (⟨(Lib.itoa (i : Int)).toArray⟩ : ByteArray).size), 48 ≤ (((⟨(Lib.itoa (i : Int)).toArray⟩ : ByteArray)[q].toNat : Nat) : Int) ∧ (((⟨(Lib.itoa (i : Int)).toArray⟩ : ByteArray)[q].toNat : Nat) : Int) ≤ 57) ∧ 0 < (⟨(Lib.itoa (i : Int)).toArray⟩ : ByteArray).size ∧ (∀ h0 : 0 < (⟨(Lib.itoa (i : Int)).toArray⟩ : ByteArray).size, (((⟨(Lib.itoa (i : Int)).toArray⟩ : ByteArray)[0].toNat : Nat) : Int) = 48 → (⟨(Lib.itoa (i : Int)).toArray⟩ : ByteArray).size = 1) ∧ (∀ k, digV ((⟨(Lib.itoa (i : Int)).toArray⟩ : ByteArray).data.toList.take k) ≤ i) ∧ digV (⟨(Lib.itoa (i : Int)).toArray⟩ : ByteArray).data.toList = i := by
  rw [itoa_dec]
  obtain ⟨h1, h2, h3, h4, h5⟩ := dec_all (i + 1) i (by omega)
  refine ⟨fun q h => ?_, ?_, fun h0 he => ?_, fun k => ?_, ?_⟩
  · have hm : (⟨(Lib.decDigits i).toArray⟩ : ByteArray)[q] ∈ Lib.decDigits i := by
      show (Lib.decDigits i).toArray[q] ∈ _
      rw [List.getElem_toArray]
      exact List.getElem_mem _
    have := h1 _ hm
    omega
  · show 0 < (Lib.decDigits i).toArray.size
    simpa using h3
  · by_cases hi : 0 < i
    · obtain ⟨c, l, hc, hn⟩ := h5 hi
      have e : (⟨(Lib.decDigits i).toArray⟩ : ByteArray)[0] = c := by
        show (Lib.decDigits i).toArray[0] = c
        rw [List.getElem_toArray]
        simp [hc]
      rw [e] at he
      omega
    · obtain rfl : i = 0 := by omega
      show (Lib.decDigits 0).toArray.size = 1
      rw [Lib.decDigits_one (by decide)]
      rfl
  · exact h4 k
  · exact h2
theorem dig_size (i : Nat) (hi : i ≤ 140737488355328) : (⟨(Lib.itoa (i : Int)).toArray⟩ : ByteArray).size ≤ 16777216 := by
  have h := Lib.itoa_length_le (i : Int) (by omega) (by omega)
  show (Lib.itoa (i : Int)).toArray.size ≤ _
  rw [List.size_toArray]
  omega
theorem step_N (h : Nat) (V : VT) (i : Nat) (vv kv : Value) (w0 w : World) (hu0 : Below w0.heap.size w0 w) (hI : InH w0 (h + 1) V vv) (h5 : V.kind = 5) (hz : V.items.length ≤ 20000) (hi : i < V.items.length) (hK : InH w 1 (stN i) kv) :
    Calls Tryz.prog 16 #[vv, kv] w fun e w' => (∃ y0 y1 y2 y3 y4, e = .returned (.tuple #[.agg #[y0, y1, y2, y3, y4], .bool true]) ∧ InH w0 h V.items[i] (.agg #[y0, y1, y2, y3, y4])) ∧ Below w.heap.size w w' := by
  obtain ⟨io, ic, ko, kc, rfl, _⟩ := hK.open
  obtain ⟨vo, vc, uo, uc, rfl, a1, a2, a3, a4, a5, a6, a7, hkn, hin⟩ := hI.open
  rw [h5]
  obtain ⟨b1, b2, b3, b4, b5⟩ := dig_text i
  have hs := dig_size i (by omega)
  show Calls Tryz.prog 16 #[_, .agg #[.int .i64 3, .string ⟨(Lib.itoa (i : Int)).toArray⟩, .string ⟨#[]⟩, .slice io 0 ic, .slice ko 0 kc]] w _
  generalize (⟨(Lib.itoa (i : Int)).toArray⟩ : ByteArray) = n at *
  have hR : ∀ u, Calls Tryz.prog 98 #[.agg #[.int .i64 3, .string n, .string ⟨#[]⟩, .slice io 0 ic, .slice ko 0 kc], .int .i64 1073741824] u fun e w' => e = .returned (.bool true) ∧ Below u.heap.size u w' := fun u => by
    have := w_5RightN n b2 hs b1 (b3 b2) 1073741824 io ko ic kc u
    rw [d30] at this
    exact this
  exact w_8StepN h V.items i hi _ _ vo V.items.length vc uo V.keys.length uc n ⟨#[]⟩ io ic ko kc w0 w hu0 hin rfl a5 a3
    (fun u => w_8FitsN _ _ vo uo _ _ vc uc n ⟨#[]⟩ io ko ic kc u (fun u => w_8IsKeyN n ⟨#[]⟩ io ko ic kc u (fun u => w_8Right 3 n ⟨#[]⟩ io ko ic kc u hR)))
    (fun u hu => w_8FindN i _ _ vo _ vc uo _ uc n ⟨#[]⟩ io ic ko kc u hi a3 (fun u => w_8Place n V.items.length i u b2 hs b1 b4 (by omega) b5))
/-- a step of the way, but for what is lacking -/
theorem step_at (r : Int) (s : VT) (rest : List VT) (xv sv : Value) (w0 w : World) (hu0 : Below w0.heap.size w0 w) (hA : At w0 r (s :: rest) xv) (hn : r = 6 → rest ≠ []) (hS : InH w 1 s sv) :
    Calls Tryz.prog 16 #[xv, sv] w fun e w' => (∃ y0 y1 y2 y3 y4, e = .returned (.tuple #[.agg #[y0, y1, y2, y3, y4], .bool true]) ∧ At w0 r rest (.agg #[y0, y1, y2, y3, y4])) ∧ Below w.heap.size w w' := by
  obtain ⟨h, V, hI, hf, hz, hb, hl⟩ := hA
  cases h with
  | zero => exact hI.elim
  | succ h =>
    rcases hl with ⟨h1, h2, _⟩ | ⟨hk, i, x, rfl, hx, hl⟩ | ⟨hk, i, k, x, rfl, hky, hx, hl⟩
    · exact absurd h2 (hn h1)
    · obtain ⟨hi, rfl⟩ := List.getElem?_eq_some_iff.1 hx
      have h1 := sz_items hf
      have h2 := szN_item (h := h) hi
      have h3 := bl_item (h := h) hi
      have h4 := fm_item hf _ (List.getElem_mem hi)
      refine (step_N h V i xv sv w0 w hu0 hI hk (by omega) hi hS).mono ?_
      rintro e w' ⟨⟨y0, y1, y2, y3, y4, he, hy⟩, hbw⟩
      exact ⟨⟨y0, y1, y2, y3, y4, he, h, _, hy, h4, by omega, by omega, hl⟩, hbw⟩
    · obtain ⟨hi, rfl⟩ := List.getElem?_eq_some_iff.1 hx
      have h2 := szN_item (h := h) hi
      have h3 := bl_item (h := h) hi
      have h4 := fm_item hf _ (List.getElem_mem hi)
      refine (step_T h V i k xv sv w0 w hu0 hI hf hk hb hky hi hS).mono ?_
      rintro e w' ⟨⟨y0, y1, y2, y3, y4, he, hy⟩, hbw⟩
      exact ⟨⟨y0, y1, y2, y3, y4, he, h, _, hy, h4, by omega, by omega, hl⟩, hbw⟩
end Go.Proofs.YtapjfocjeligiaaGreatDoor
namespace Go.Proofs.YtapjfocjeligiaaGreatDoor
open Go.RowKit Go.Shelf Go.Sort
set_option linter.unusedVariables false
set_option linter.unusedSimpArgs false
attribute [local go_sem] Oper.semAt_some

theorem iin_oneM {W : World} {B hv : Nat} {V : VT} {y0 y1 y2 y3 y4 : Value} (hb : W.heap[B]? = some (.cells #[y0, y1, y2, y3, y4] 37 (0, 0))) (hI : InH W hv V (.agg #[y0, y1, y2, y3, y4])) : IIn W hv (some ⟨B, 0, none⟩) [V] := by
  have hc := fun j => cell_of_row W B j _ _ _ hb
  refine ⟨fun _ => ⟨B, 0, rfl, lt_row hb, fun i hi => ?_⟩⟩
  have hi' : i < 1 := hi
  obtain rfl : i = 0 := by omega
  exact ⟨y0, y1, y2, y3, y4, ⟨hc 0, hc 1, hc 2, hc 3, hc 4⟩, hI⟩
/-- the box of the value that one stands at -/
structure XB (w7 u : World) (ys : Array Value) : Prop where
  below : Below w7.heap.size w7 u
  box : u.heap[w7.heap.size]? = some (.cells ys 37 (0, 0))
theorem xb_new (w7 : World) (ys : Array Value) : XB w7 (w7.alloc (.cells ys 37)) ys := ⟨below1 w7 _, World.alloc_heap_new w7 _⟩
theorem inh_shape {W : World} {h : Nat} {V : VT} {v : Value} (hI : InH W h V v) : ∃ (kd : Int) (nm tx : ByteArray) (io : Option Addr) (NI icap : Nat) (vo : Option Addr) (NK vcap : Nat), v = .agg #[.int .i64 kd, .string nm, .string tx, .slice io NI icap, .slice vo NK vcap] := by
  cases h with
  | zero => exact hI.elim
  | succ h =>
    obtain ⟨io, icap, ko, kcap, e, _⟩ := hI.open
    exact ⟨_, _, _, _, _, _, _, _, _, e⟩
theorem in_okM {hv h : Nat} {V : VT} {T : TT} (h1 : formN hv V = true) (h2 : fmN h T = true) : inR hv h V T = ((agN h V T).isNone, 0) := by unfold inR; rw [h1, h2]; rfl
theorem wh_ok {hv h : Nat} {V : VT} {T : TT} (h1 : formN hv V = true) (h2 : fmN h T = true) : whR hv h V T = (match agN h V T with | none => ([], 0, 0) | some q => (q.1, q.2, 0)) := by unfold whR; rw [h1, h2]; rfl

set_option maxRecDepth 100000 in
set_option maxHeartbeats 12800000 in
theorem w_MemberAgrees (hv h : Nat) (V : VT) (T : TT) (vv vt : Value) (w : World) (hI : InH w hv V vv) (hT : InT w h T vt) (ht : Tab2 w) (hg : ErrT w) (hb : blN hv V ≤ 16777216) :
    Calls Tryz.prog 4 #[vv, vt] w fun e w' => e = .returned (.bool true) ∧ Below w.heap.size w w' := by
  have HMK := Hid.mk (fun u (hu : Below w.heap.size w u) => w_MemberKnown u (ht.keep hu) (hg.keep hu))
  have HFv := Hid.mk (fun u (hu : Below w.heap.size w u) => w_rFormed hv V vv u (hI.keep hu))
  have HFt := Hid.mk (fun u (hu : Below w.heap.size w u) => w_tFormed h T vt u (hT.keep hu))
  have HIn := Hid.mk (fun u (hu : Below w.heap.size w u) => w_mIn hv h V T vv vt u (hI.keep hu) (hT.keep hu) (ht.keep hu))
  have HWy := Hid.mk (fun u (hu : Below w.heap.size w u) (hl : ∀ q, agN h V T = some q → q.1.length ≤ 1048576) => w_mWhy hv h V T vv vt u (hI.keep hu) (hT.keep hu) (ht.keep hu) (hg.keep hu) hl)
  have HIv := Hid.mk hI
  have HBl := Hid.mk hb
  obtain ⟨kd, nm, tx, io, NI, icap, vo, NK, vcap, rfl⟩ := inh_shape hI
  obtain ⟨sa, sb, sc, sd, ⟨seo, sen, sec⟩, sf, ⟨sgo, sgn, sgc⟩, ⟨sio, sinn, sic⟩, ⟨sjo, sjn, sjc⟩, rfl⟩ := inT_shape hT
  clear hI hT ht hg hb
  have HX := Hid.mk (bx2_two w #[.int .i64 kd, .string nm, .string tx, .slice io NI icap, .slice vo NK vcap] #[.bool sa, .bool sb, .bool sc, .bool sd, .slice seo sen sec, .bool sf, .slice sgo sgn sgc, .slice sio sinn sic, .slice sjo sjn sjc] 37 29)
  obtain ⟨W0, hW0⟩ : ∃ W0, (w.alloc (.cells #[.int .i64 kd, .string nm, .string tx, .slice io NI icap, .slice vo NK vcap] 37)).alloc (.cells #[.bool sa, .bool sb, .bool sc, .bool sd, .slice seo sen sec, .bool sf, .slice sgo sgn sgc, .slice sio sinn sic, .slice sjo sjn sjc] 29) = W0 := ⟨_, rfl⟩
  rw [hW0] at HX
  go_enter Tryz.func4, Tryz.ntmps4
  go_wp2_with fail
  refine (HMK.out _ HX.out.below).mono ?_
  rintro e w1 ⟨rfl, hq⟩
  have HX1 := Hid.mk (HX.out.keep hq)
  clear hq HX hW0 HMK
  have p0 : w1.cell? ⟨w.heap.size, 0, none⟩ = some (.int .i64 kd) := HX1.out.one 0
  have p1 : w1.cell? ⟨w.heap.size, 1, none⟩ = some (.string nm) := HX1.out.one 1
  have p2 : w1.cell? ⟨w.heap.size, 2, none⟩ = some (.string tx) := HX1.out.one 2
  have p3 : w1.cell? ⟨w.heap.size, 3, none⟩ = some (.slice io NI icap) := HX1.out.one 3
  have p4 : w1.cell? ⟨w.heap.size, 4, none⟩ = some (.slice vo NK vcap) := HX1.out.one 4
  have q0 : w1.cell? ⟨w.heap.size + 1, 0, none⟩ = some (.bool sa) := HX1.out.two 0
  have q1 : w1.cell? ⟨w.heap.size + 1, 1, none⟩ = some (.bool sb) := HX1.out.two 1
  have q2 : w1.cell? ⟨w.heap.size + 1, 2, none⟩ = some (.bool sc) := HX1.out.two 2
  have q3 : w1.cell? ⟨w.heap.size + 1, 3, none⟩ = some (.bool sd) := HX1.out.two 3
  have q4 : w1.cell? ⟨w.heap.size + 1, 4, none⟩ = some (.slice seo sen sec) := HX1.out.two 4
  have q5 : w1.cell? ⟨w.heap.size + 1, 5, none⟩ = some (.bool sf) := HX1.out.two 5
  have q6 : w1.cell? ⟨w.heap.size + 1, 6, none⟩ = some (.slice sgo sgn sgc) := HX1.out.two 6
  have q7 : w1.cell? ⟨w.heap.size + 1, 7, none⟩ = some (.slice sio sinn sic) := HX1.out.two 7
  have q8 : w1.cell? ⟨w.heap.size + 1, 8, none⟩ = some (.slice sjo sjn sjc) := HX1.out.two 8
  go_wp2_with fail
  refine (HFv.out _ HX1.out.below).mono ?_
  rintro e w2 ⟨rfl, hq⟩
  have HX2 := Hid.mk (HX1.out.keep hq)
  clear hq HX1 HFv p0 p1 p2 p3 p4 q0 q1 q2 q3 q4 q5 q6 q7 q8
  cases hfv : formN hv V with
  | false =>
    clear hfv
    go_wp2_with fail
    go_ret
    exact ⟨rfl, HX2.out.below⟩
  | true =>
    have HFV := Hid.mk hfv
    clear hfv
    have p0 : w2.cell? ⟨w.heap.size, 0, none⟩ = some (.int .i64 kd) := HX2.out.one 0
    have p1 : w2.cell? ⟨w.heap.size, 1, none⟩ = some (.string nm) := HX2.out.one 1
    have p2 : w2.cell? ⟨w.heap.size, 2, none⟩ = some (.string tx) := HX2.out.one 2
    have p3 : w2.cell? ⟨w.heap.size, 3, none⟩ = some (.slice io NI icap) := HX2.out.one 3
    have p4 : w2.cell? ⟨w.heap.size, 4, none⟩ = some (.slice vo NK vcap) := HX2.out.one 4
    have q0 : w2.cell? ⟨w.heap.size + 1, 0, none⟩ = some (.bool sa) := HX2.out.two 0
    have q1 : w2.cell? ⟨w.heap.size + 1, 1, none⟩ = some (.bool sb) := HX2.out.two 1
    have q2 : w2.cell? ⟨w.heap.size + 1, 2, none⟩ = some (.bool sc) := HX2.out.two 2
    have q3 : w2.cell? ⟨w.heap.size + 1, 3, none⟩ = some (.bool sd) := HX2.out.two 3
    have q4 : w2.cell? ⟨w.heap.size + 1, 4, none⟩ = some (.slice seo sen sec) := HX2.out.two 4
    have q5 : w2.cell? ⟨w.heap.size + 1, 5, none⟩ = some (.bool sf) := HX2.out.two 5
    have q6 : w2.cell? ⟨w.heap.size + 1, 6, none⟩ = some (.slice sgo sgn sgc) := HX2.out.two 6
    have q7 : w2.cell? ⟨w.heap.size + 1, 7, none⟩ = some (.slice sio sinn sic) := HX2.out.two 7
    have q8 : w2.cell? ⟨w.heap.size + 1, 8, none⟩ = some (.slice sjo sjn sjc) := HX2.out.two 8
    go_wp2_with fail
    refine (HFt.out _ HX2.out.below).mono ?_
    rintro e w3 ⟨rfl, hq⟩
    have HX3 := Hid.mk (HX2.out.keep hq)
    clear hq HX2 HFt p0 p1 p2 p3 p4 q0 q1 q2 q3 q4 q5 q6 q7 q8
    cases hft : fmN h T with
    | false =>
      clear hft
      go_wp2_with fail
      go_ret
      exact ⟨rfl, HX3.out.below⟩
    | true =>
      have HFT := Hid.mk hft
      clear hft
      have p0 : w3.cell? ⟨w.heap.size, 0, none⟩ = some (.int .i64 kd) := HX3.out.one 0
      have p1 : w3.cell? ⟨w.heap.size, 1, none⟩ = some (.string nm) := HX3.out.one 1
      have p2 : w3.cell? ⟨w.heap.size, 2, none⟩ = some (.string tx) := HX3.out.one 2
      have p3 : w3.cell? ⟨w.heap.size, 3, none⟩ = some (.slice io NI icap) := HX3.out.one 3
      have p4 : w3.cell? ⟨w.heap.size, 4, none⟩ = some (.slice vo NK vcap) := HX3.out.one 4
      have q0 : w3.cell? ⟨w.heap.size + 1, 0, none⟩ = some (.bool sa) := HX3.out.two 0
      have q1 : w3.cell? ⟨w.heap.size + 1, 1, none⟩ = some (.bool sb) := HX3.out.two 1
      have q2 : w3.cell? ⟨w.heap.size + 1, 2, none⟩ = some (.bool sc) := HX3.out.two 2
      have q3 : w3.cell? ⟨w.heap.size + 1, 3, none⟩ = some (.bool sd) := HX3.out.two 3
      have q4 : w3.cell? ⟨w.heap.size + 1, 4, none⟩ = some (.slice seo sen sec) := HX3.out.two 4
      have q5 : w3.cell? ⟨w.heap.size + 1, 5, none⟩ = some (.bool sf) := HX3.out.two 5
      have q6 : w3.cell? ⟨w.heap.size + 1, 6, none⟩ = some (.slice sgo sgn sgc) := HX3.out.two 6
      have q7 : w3.cell? ⟨w.heap.size + 1, 7, none⟩ = some (.slice sio sinn sic) := HX3.out.two 7
      have q8 : w3.cell? ⟨w.heap.size + 1, 8, none⟩ = some (.slice sjo sjn sjc) := HX3.out.two 8
      obtain ⟨W4, hW4⟩ : ∃ W4, w3.alloc (.cells #[.int .i64 kd, .string nm, .string tx, .slice io NI icap, .slice vo NK vcap] 37) = W4 := ⟨_, rfl⟩
      have hB4 : Below w3.heap.size w3 W4 := by rw [← hW4]; exact below1 w3 _
      have HX4 := Hid.mk (HX3.out.keep hB4)
      have HRow : Hid (W4.heap[w3.heap.size]? = some (.cells #[.int .i64 kd, .string nm, .string tx, .slice io NI icap, .slice vo NK vcap] 37 (0, 0))) := by show _ = _; rw [← hW4]; exact World.alloc_heap_new w3 _
      have HFit := Hid.mk (w_Fit hv (some ⟨w3.heap.size, 0, none⟩) 1 1 [V] W4 rfl (iin_oneM HRow.out (HIv.out.keep HX4.out.below)) (Nat.le_refl _) (by decide))
      have HW4 := Hid.mk hW4
      clear hB4 hW4
      go_wp2_with fail
      rw [HW4.out]
      refine HFit.out.mono ?_
      rintro e w5 ⟨rfl, hq⟩
      have HX5 := Hid.mk (HX4.out.keep hq)
      clear hq HX4 HX3 HFit HRow HW4 p0 p1 p2 p3 p4 q0 q1 q2 q3 q4 q5 q6 q7 q8
      by_cases hsz : sumL ([V].map (szN hv)) ≤ 20000
      · have HSz : Hid (szN hv V ≤ 20000) := by have e : sumL ([V].map (szN hv)) = szN hv V + 0 := rfl; show _ ≤ _; omega
        have hds : decide (sumL ([V].map (szN hv)) ≤ 20000) = true := decide_eq_true hsz
        rw [hds]
        clear hds hsz
        have HIn5 := Hid.mk (HIn.out w5 HX5.out.below)
        rw [in_okM HFV.out HFT.out] at HIn5
        have p0 : w5.cell? ⟨w.heap.size, 0, none⟩ = some (.int .i64 kd) := HX5.out.one 0
        have p1 : w5.cell? ⟨w.heap.size, 1, none⟩ = some (.string nm) := HX5.out.one 1
        have p2 : w5.cell? ⟨w.heap.size, 2, none⟩ = some (.string tx) := HX5.out.one 2
        have p3 : w5.cell? ⟨w.heap.size, 3, none⟩ = some (.slice io NI icap) := HX5.out.one 3
        have p4 : w5.cell? ⟨w.heap.size, 4, none⟩ = some (.slice vo NK vcap) := HX5.out.one 4
        have q0 : w5.cell? ⟨w.heap.size + 1, 0, none⟩ = some (.bool sa) := HX5.out.two 0
        have q1 : w5.cell? ⟨w.heap.size + 1, 1, none⟩ = some (.bool sb) := HX5.out.two 1
        have q2 : w5.cell? ⟨w.heap.size + 1, 2, none⟩ = some (.bool sc) := HX5.out.two 2
        have q3 : w5.cell? ⟨w.heap.size + 1, 3, none⟩ = some (.bool sd) := HX5.out.two 3
        have q4 : w5.cell? ⟨w.heap.size + 1, 4, none⟩ = some (.slice seo sen sec) := HX5.out.two 4
        have q5 : w5.cell? ⟨w.heap.size + 1, 5, none⟩ = some (.bool sf) := HX5.out.two 5
        have q6 : w5.cell? ⟨w.heap.size + 1, 6, none⟩ = some (.slice sgo sgn sgc) := HX5.out.two 6
        have q7 : w5.cell? ⟨w.heap.size + 1, 7, none⟩ = some (.slice sio sinn sic) := HX5.out.two 7
        have q8 : w5.cell? ⟨w.heap.size + 1, 8, none⟩ = some (.slice sjo sjn sjc) := HX5.out.two 8
        go_wp2_with fail
        refine HIn5.out.mono ?_
        rintro e w6 ⟨rfl, hq⟩
        have HX6 := Hid.mk (HX5.out.keep hq)
        clear hq HX5 HIn5 HIn p0 p1 p2 p3 p4 q0 q1 q2 q3 q4 q5 q6 q7 q8
        have HWy6 := Hid.mk (HWy.out w6 HX6.out.below (fun q hq => by
          have h1 := ag_lead h V T q hq
          have h2 := lead_len q.1 V hv HFV.out h1.1
          have h3 := HSz.out
          omega))
        rw [wh_ok HFV.out HFT.out] at HWy6
        have HLd := Hid.mk (ag_lead h V T)
        cases hag : agN h V T with
        | none =>
          rw [hag] at HWy6
          have p0 : w6.cell? ⟨w.heap.size, 0, none⟩ = some (.int .i64 kd) := HX6.out.one 0
          have p1 : w6.cell? ⟨w.heap.size, 1, none⟩ = some (.string nm) := HX6.out.one 1
          have p2 : w6.cell? ⟨w.heap.size, 2, none⟩ = some (.string tx) := HX6.out.one 2
          have p3 : w6.cell? ⟨w.heap.size, 3, none⟩ = some (.slice io NI icap) := HX6.out.one 3
          have p4 : w6.cell? ⟨w.heap.size, 4, none⟩ = some (.slice vo NK vcap) := HX6.out.one 4
          have q0 : w6.cell? ⟨w.heap.size + 1, 0, none⟩ = some (.bool sa) := HX6.out.two 0
          have q1 : w6.cell? ⟨w.heap.size + 1, 1, none⟩ = some (.bool sb) := HX6.out.two 1
          have q2 : w6.cell? ⟨w.heap.size + 1, 2, none⟩ = some (.bool sc) := HX6.out.two 2
          have q3 : w6.cell? ⟨w.heap.size + 1, 3, none⟩ = some (.bool sd) := HX6.out.two 3
          have q4 : w6.cell? ⟨w.heap.size + 1, 4, none⟩ = some (.slice seo sen sec) := HX6.out.two 4
          have q5 : w6.cell? ⟨w.heap.size + 1, 5, none⟩ = some (.bool sf) := HX6.out.two 5
          have q6 : w6.cell? ⟨w.heap.size + 1, 6, none⟩ = some (.slice sgo sgn sgc) := HX6.out.two 6
          have q7 : w6.cell? ⟨w.heap.size + 1, 7, none⟩ = some (.slice sio sinn sic) := HX6.out.two 7
          have q8 : w6.cell? ⟨w.heap.size + 1, 8, none⟩ = some (.slice sjo sjn sjc) := HX6.out.two 8
          go_wp2_with fail
          refine HWy6.out.mono ?_
          rintro e w7 ⟨⟨po, pc, rfl, hpo⟩, hq⟩
          have HX7 := Hid.mk (HX6.out.keep hq)
          clear hq hpo HX6 HWy6 HLd hag HWy p0 p1 p2 p3 p4 q0 q1 q2 q3 q4 q5 q6 q7 q8
          go_wp2_with fail
          go_ret
          exact ⟨rfl, HX7.out.below⟩
        | some q =>
          obtain ⟨P, r⟩ := q
          rw [hag] at HWy6
          obtain ⟨hld, hr1, hr7⟩ := HLd.out (P, r) hag
          dsimp only at hld hr1 hr7 HWy6
          have HLead := Hid.mk hld
          have hr0 : ¬ r = 0 := by omega
          have hrb : (r == 0) = false := by rw [beq_eq_false_iff_ne]; exact hr0
          have hrn : ¬ r < 0 := by omega
          have hrm : ¬ 7 < r := by omega
          have HPl : Hid (P.length ≤ 20000) := by have h1 := lead_len P V hv HFV.out hld; have h3 := HSz.out; show _ ≤ _; omega
          clear hld hag HLd
          have p0 : w6.cell? ⟨w.heap.size, 0, none⟩ = some (.int .i64 kd) := HX6.out.one 0
          have p1 : w6.cell? ⟨w.heap.size, 1, none⟩ = some (.string nm) := HX6.out.one 1
          have p2 : w6.cell? ⟨w.heap.size, 2, none⟩ = some (.string tx) := HX6.out.one 2
          have p3 : w6.cell? ⟨w.heap.size, 3, none⟩ = some (.slice io NI icap) := HX6.out.one 3
          have p4 : w6.cell? ⟨w.heap.size, 4, none⟩ = some (.slice vo NK vcap) := HX6.out.one 4
          have q0 : w6.cell? ⟨w.heap.size + 1, 0, none⟩ = some (.bool sa) := HX6.out.two 0
          have q1 : w6.cell? ⟨w.heap.size + 1, 1, none⟩ = some (.bool sb) := HX6.out.two 1
          have q2 : w6.cell? ⟨w.heap.size + 1, 2, none⟩ = some (.bool sc) := HX6.out.two 2
          have q3 : w6.cell? ⟨w.heap.size + 1, 3, none⟩ = some (.bool sd) := HX6.out.two 3
          have q4 : w6.cell? ⟨w.heap.size + 1, 4, none⟩ = some (.slice seo sen sec) := HX6.out.two 4
          have q5 : w6.cell? ⟨w.heap.size + 1, 5, none⟩ = some (.bool sf) := HX6.out.two 5
          have q6 : w6.cell? ⟨w.heap.size + 1, 6, none⟩ = some (.slice sgo sgn sgc) := HX6.out.two 6
          have q7 : w6.cell? ⟨w.heap.size + 1, 7, none⟩ = some (.slice sio sinn sic) := HX6.out.two 7
          have q8 : w6.cell? ⟨w.heap.size + 1, 8, none⟩ = some (.slice sjo sjn sjc) := HX6.out.two 8
          go_wp2_with fail
          refine HWy6.out.mono ?_
          rintro e w7 ⟨⟨po, pc, rfl, hpc, hpi⟩, hq⟩
          have HX7 := Hid.mk (HX6.out.keep hq)
          have HP := Hid.mk hpi
          clear hq hpi HX6 HWy6 HWy p0 p1 p2 p3 p4 q0 q1 q2 q3 q4 q5 q6 q7 q8
          have hpl := HPl.out
          obtain ⟨N, hN⟩ : ∃ N, P.length = N := ⟨_, rfl⟩
          have HN := Hid.mk hN
          rw [hN] at hpc hpl ⊢
          clear hN
          have HAt : Hid (At w7 r P (.agg #[.int .i64 kd, .string nm, .string tx, .slice io NI icap, .slice vo NK vcap])) := ⟨hv, V, HIv.out.keep HX7.out.below, HFV.out, HSz.out, HBl.out, HLead.out⟩
          clear HLead HIv HBl HSz HPl HFV HFT
          have p0 : w7.cell? ⟨w.heap.size, 0, none⟩ = some (.int .i64 kd) := HX7.out.one 0
          have p1 : w7.cell? ⟨w.heap.size, 1, none⟩ = some (.string nm) := HX7.out.one 1
          have p2 : w7.cell? ⟨w.heap.size, 2, none⟩ = some (.string tx) := HX7.out.one 2
          have p3 : w7.cell? ⟨w.heap.size, 3, none⟩ = some (.slice io NI icap) := HX7.out.one 3
          have p4 : w7.cell? ⟨w.heap.size, 4, none⟩ = some (.slice vo NK vcap) := HX7.out.one 4
          by_cases h6 : r = 6
          · subst h6
            obtain ⟨M, hM⟩ : ∃ M, N = M + 1 := by
              have hA := HAt.out
              cases hP : P with
              | nil => rw [hP] at hA; obtain ⟨_, _, _, _, _, _, hl⟩ := hA; exact absurd rfl hl
              | cons s p => exact ⟨p.length, by rw [← HN.out, hP]; rfl⟩
            have hMi : (N : Int) - 1 = (M : Int) := by omega
            have hM0 : ¬ (M : Int) < 0 := by omega
            have HM : Hid (M ≤ N ∧ M < N ∧ N ≤ M + 1) := ⟨by omega, by omega, by omega⟩
            clear hM
            go_wp2_with fail
            go_loopw [12] (fun i wr => ∃ (k : Nat) (yk : Int) (yn yt : ByteArray) (yo : Option Addr) (yN yc : Nat) (yp : Option Addr) (yM yd : Nat), k ≤ M ∧ i = .int .i64 (k : Int) ∧ Hid (XB w7 wr #[.int .i64 yk, .string yn, .string yt, .slice yo yN yc, .slice yp yM yd]) ∧ Hid (At w7 6 (P.drop k) (.agg #[.int .i64 yk, .string yn, .string yt, .slice yo yN yc, .slice yp yM yd]))) (fun i _ => M - (intOf i).toNat)
            case atStart => exact ⟨0, kd, nm, tx, io, NI, icap, vo, NK, vcap, Nat.zero_le _, rfl, xb_new w7 _, HAt⟩
            case round =>
              clear HAt p0 p1 p2 p3 p4
              obtain ⟨k, yk, yn, yt, yo, yN, yc, yp, yM, yd, hkM, rfl, HXb, HAt⟩ := hrel
              by_cases hlt : k < M
              · have hl1 : (k : Int) < (M : Int) := by omega
                have hl0 : (0 : Int) ≤ (k : Int) := by omega
                have hlN : (k : Int) < (N : Int) := by have := HM.out.1; omega
                have hkP : k < P.length := by have := HM.out.1; rw [HN.out]; omega
                obtain ⟨b, off, hpo, hbl, hrow⟩ := (HP.out.keep HXb.out.below).row (by omega)
                subst hpo
                obtain ⟨g0, g1, g2, g3, g4, ⟨c0, c1, c2, c3, c4⟩, hgs⟩ := hrow k hkP
                obtain ⟨gk, gn, gx, gq, gN, gc, gp, gM, gd, rfl, rfl, rfl, rfl, rfl⟩ := hgs.shape
                have hA := HAt.out
                rw [List.drop_eq_getElem_cons hkP] at hA
                have HStep := Hid.mk (fun u (hu : Below wr.heap.size wr u) => step_at 6 P[k] (P.drop (k + 1)) _ _ w7 u (HXb.out.below.trans (hu.mono HXb.out.below.size)) hA (by
                  intro h6' e
                  have e2 := congrArg List.length e
                  rw [List.length_drop, List.length_nil, HN.out] at e2
                  have e3 := HM.out.2.1
                  omega) (hgs.keep hu))
                have HSS : Hid (∀ u, Below wr.heap.size wr u → u.cell? ⟨w7.heap.size, 0, none⟩ = some (.int .i64 yk) ∧ u.cell? ⟨w7.heap.size, 1, none⟩ = some (.string yn) ∧ u.cell? ⟨w7.heap.size, 2, none⟩ = some (.string yt) ∧ u.cell? ⟨w7.heap.size, 3, none⟩ = some (.slice yo yN yc) ∧ u.cell? ⟨w7.heap.size, 4, none⟩ = some (.slice yp yM yd) ∧ u.cell? ⟨b, off + k * 5, none⟩ = some (.int .i64 gk) ∧ u.cell? ⟨b, off + k * 5 + 1, none⟩ = some (.string gn) ∧ u.cell? ⟨b, off + k * 5 + 2, none⟩ = some (.string gx) ∧ u.cell? ⟨b, off + k * 5 + 3, none⟩ = some (.slice gq gN gc) ∧ u.cell? ⟨b, off + k * 5 + 4, none⟩ = some (.slice gp gM gd)) := fun u hu => by
                  have hx := fun j => (hu.cell (p := ⟨w7.heap.size, j, none⟩) (lt_row HXb.out.box)).trans (cell_of_row _ _ j _ _ _ HXb.out.box)
                  exact ⟨hx 0, hx 1, hx 2, hx 3, hx 4, (hu.cell (p := ⟨_, _, _⟩) hbl).trans c0, (hu.cell (p := ⟨_, _, _⟩) hbl).trans c1, (hu.cell (p := ⟨_, _, _⟩) hbl).trans c2, (hu.cell (p := ⟨_, _, _⟩) hbl).trans c3, (hu.cell (p := ⟨_, _, _⟩) hbl).trans c4⟩
                obtain ⟨wd, hwd⟩ : ∃ wd, wr.drew = wd := ⟨_, rfl⟩
                have HD : Hid (Below wr.heap.size wr wd) := by show Below _ _ _; rw [← hwd]; exact (Below.refl wr.heap.size wr).drew
                have HDq := Hid.mk hwd
                clear hwd
                clear hA hgs hrow c0 c1 c2 c3 c4 hkP
                go_wp2_with fail
                have KEY : ∀ (B : Nat) (zk : Int) (zn zt : ByteArray) (zo : Option Addr) (zN zc : Nat) (zp : Option Addr) (zM zd : Nat) (W8 : World), Hid (Below wr.heap.size wr W8 ∧ wr.heap.size ≤ B ∧ W8.heap[B]? = some (.cells #[.int .i64 zk, .string zn, .string zt, .slice zo zN zc, .slice zp zM zd] 37 (0, 0)) ∧ At w7 6 (P.drop (k + 1)) (.agg #[.int .i64 zk, .string zn, .string zt, .slice zo zN zc, .slice zp zM zd])) → (?PP : Nat → Int → ByteArray → ByteArray → Option Addr → Nat → Nat → Option Addr → Nat → Nat → World → Prop) B zk zn zt zo zN zc zp zM zd W8 := ?key
                refine wp_region_held_drew (S := fun u => u.cell? ⟨w7.heap.size, 0, none⟩ = some (.int .i64 yk) ∧ u.cell? ⟨w7.heap.size, 1, none⟩ = some (.string yn) ∧ u.cell? ⟨w7.heap.size, 2, none⟩ = some (.string yt) ∧ u.cell? ⟨w7.heap.size, 3, none⟩ = some (.slice yo yN yc) ∧ u.cell? ⟨w7.heap.size, 4, none⟩ = some (.slice yp yM yd) ∧ u.cell? ⟨b, off + k * 5, none⟩ = some (.int .i64 gk) ∧ u.cell? ⟨b, off + k * 5 + 1, none⟩ = some (.string gn) ∧ u.cell? ⟨b, off + k * 5 + 2, none⟩ = some (.string gx) ∧ u.cell? ⟨b, off + k * 5 + 3, none⟩ = some (.slice gq gN gc) ∧ u.cell? ⟨b, off + k * 5 + 4, none⟩ = some (.slice gp gM gd)) (by kernel_rfl) (by rw [HDq.out]; exact HSS.out _ HD.out) (fun hHeld => ?_)
                rw [HDq.out] at hHeld ⊢
                refine wpAnyH_take (i := 0) (oi := _) (v := .agg #[.int .i64 yk, .string yn, .string yt, .slice yo yN yc, .slice yp yM yd]) rfl (by kernel_rfl) (by kernel_rfl) (by kernel_rfl) (fun _ _ _ h => h) (Or.inl ⟨by rfl, ?_⟩) (by assumption) ?_
                · intro w hSw
                  go_simp
                try simp only [Act.put, List.getElem_toArray, List.getElem_cons_succ, List.getElem_cons_zero, List.setIfInBounds_toArray, List.set_cons_zero, List.set_cons_succ]
                refine wpAnyH_take (i := 1) (oi := _) (v := .slice (some ⟨b, off, none⟩) N pc) rfl (by kernel_rfl) (by kernel_rfl) (by kernel_rfl) (fun _ _ _ h => h) (Or.inl ⟨by rfl, ?_⟩) (by assumption) ?_
                · intro w hSw
                  go_simp
                try simp only [Act.put, List.getElem_toArray, List.getElem_cons_succ, List.getElem_cons_zero, List.setIfInBounds_toArray, List.set_cons_zero, List.set_cons_succ]
                refine wpAnyH_take (i := 2) (oi := _) (v := .int .i64 (k : Int)) rfl (by kernel_rfl) (by kernel_rfl) (by kernel_rfl) (fun _ _ _ h => h) (Or.inl ⟨by rfl, ?_⟩) (by assumption) ?_
                · intro w hSw
                  go_simp
                try simp only [Act.put, List.getElem_toArray, List.getElem_cons_succ, List.getElem_cons_zero, List.setIfInBounds_toArray, List.set_cons_zero, List.set_cons_succ]
                refine wpAnyH_take (i := 3) (oi := _) (v := .pointer (some ⟨b, off + k * 5, none⟩)) rfl (by kernel_rfl) (by kernel_rfl) (by kernel_rfl) (fun _ _ _ h => h) (Or.inl ⟨by rfl, ?_⟩) (by assumption) ?_
                · intro w hSw
                  go_simp
                try simp only [Act.put, List.getElem_toArray, List.getElem_cons_succ, List.getElem_cons_zero, List.setIfInBounds_toArray, List.set_cons_zero, List.set_cons_succ]
                refine wpAnyH_take (i := 4) (oi := _) (v := .agg #[.int .i64 gk, .string gn, .string gx, .slice gq gN gc, .slice gp gM gd]) rfl (by kernel_rfl) (by kernel_rfl) (by kernel_rfl) (fun _ _ _ h => h) (Or.inl ⟨by rfl, ?_⟩) (by assumption) ?_
                · intro w hSw
                  go_simp
                try simp only [Act.put, List.getElem_toArray, List.getElem_cons_succ, List.getElem_cons_zero, List.setIfInBounds_toArray, List.set_cons_zero, List.set_cons_succ]
                refine wpAnyH_ready (rs := [5, 9]) (by kernel_rfl) (by simp) ?_
                refine AllReadyH.cons (o := _) rfl (fun K hK => ?_) ?_
                · skip
                  go_simp
                  go_at_call 16
                  refine (HStep.out _ HD.out).mono ?_
                  rintro e w4 ⟨⟨z0, z1, z2, z3, z4, rfl, hz⟩, hq⟩
                  have HAz := Hid.mk hz
                  obtain ⟨hz', hZ', hzI, _⟩ := hz
                  obtain ⟨zk, zn, zt, zo, zN, zc, zp, zM, zd, rfl, rfl, rfl, rfl, rfl⟩ := hzI.shape
                  clear hzI
                  have HB4 := Hid.mk (HD.out.trans (hq.mono HD.out.size))
                  clear hq
                  go_wp2_with fail
                  refine hK.out _ _ (HSS.out _ HB4.out) (fun hHeld => ?_)
                  clear hK K
                  try simp only [Act.put, List.getElem_toArray, List.getElem_cons_succ, List.getElem_cons_zero, List.setIfInBounds_toArray, List.set_cons_zero, List.set_cons_succ]
                  refine wpAnyH_take (i := 6) (oi := _) (v := .tuple #[.agg #[.int .i64 zk, .string zn, .string zt, .slice zo zN zc, .slice zp zM zd], .bool true]) rfl (by kernel_rfl) (by kernel_rfl) (by kernel_rfl) (fun _ _ _ h => h) (Or.inl ⟨by rfl, ?_⟩) (by assumption) ?_
                  · intro w hSw
                    go_simp
                  try simp only [Act.put, List.getElem_toArray, List.getElem_cons_succ, List.getElem_cons_zero, List.setIfInBounds_toArray, List.set_cons_zero, List.set_cons_succ]
                  refine wpAnyH_take (i := 7) (oi := _) (v := .agg #[.int .i64 zk, .string zn, .string zt, .slice zo zN zc, .slice zp zM zd]) rfl (by kernel_rfl) (by kernel_rfl) (by kernel_rfl) (fun _ _ _ h => h) (Or.inl ⟨by rfl, ?_⟩) (by assumption) ?_
                  · intro w hSw
                    go_simp
                  try simp only [Act.put, List.getElem_toArray, List.getElem_cons_succ, List.getElem_cons_zero, List.setIfInBounds_toArray, List.set_cons_zero, List.set_cons_succ]
                  refine wpAnyH_take (i := 8) (oi := _) (v := .bool true) rfl (by kernel_rfl) (by kernel_rfl) (by kernel_rfl) (fun _ _ _ h => h) (Or.inl ⟨by rfl, ?_⟩) (by assumption) ?_
                  · intro w hSw
                    go_simp
                  try simp only [Act.put, List.getElem_toArray, List.getElem_cons_succ, List.getElem_cons_zero, List.setIfInBounds_toArray, List.set_cons_zero, List.set_cons_succ]
                  refine wpAnyH_ready (rs := [9]) (by kernel_rfl) (by simp) ?_
                  refine AllReadyH.cons (o := _) rfl (fun K hK => ?_) AllReadyH.nil
                  go_simp
                  obtain ⟨w5, hwo⟩ : ∃ W, w4.alloc (.cells #[.int .i64 0, .string ⟨#[]⟩, .string ⟨#[]⟩, .slice none 0 0, .slice none 0 0] 37) = W := ⟨_, rfl⟩
                  have hbo : Below w4.heap.size w4 w5 := by rw [← hwo]; exact below1 _ _
                  have HB5 := Hid.mk (HB4.out.trans (hbo.mono HB4.out.size))
                  have HZo : Hid (wr.heap.size ≤ w4.heap.size ∧ w5.heap[w4.heap.size]? = some (.cells #[.int .i64 0, .string ⟨#[]⟩, .string ⟨#[]⟩, .slice none 0 0, .slice none 0 0] 37 (0, 0))) := ⟨HB4.out.size, by rw [← hwo]; exact World.alloc_heap_new _ _⟩
                  try rw [hwo]
                  try generalize w4.heap.size = Bx at HZo ⊢
                  clear hwo hbo
                  refine hK.out _ _ (HSS.out _ HB5.out) (fun hHeld => ?_)
                  clear hK K
                  try simp only [Act.put, List.getElem_toArray, List.getElem_cons_succ, List.getElem_cons_zero, List.setIfInBounds_toArray, List.set_cons_zero, List.set_cons_succ]
                  refine wpAnyH_ready (rs := [10]) (by kernel_rfl) (by simp) ?_
                  refine AllReadyH.cons (o := _) rfl (fun K hK => ?_) AllReadyH.nil
                  obtain ⟨x0, x1, x2, x3, x4, xf0, xf1, xf2, xf3, xf4⟩ := vboxM HZo.out.2
                  have hxl := lt_row HZo.out.2
                  obtain ⟨w6, hwo⟩ : ∃ W, (((((w5.setCell ⟨Bx, 0, none⟩ (.int .i64 zk)).setCell ⟨Bx, 1, none⟩ (.string zn)).setCell ⟨Bx, 2, none⟩ (.string zt)).setCell ⟨Bx, 3, none⟩ (.slice zo zN zc)).setCell ⟨Bx, 4, none⟩ (.slice zp zM zd)) = W := ⟨_, rfl⟩
                  obtain ⟨e5, k5, s5⟩ := rboxM w5 _ _ _ _ _ _ _ _ _ _ _ _ HZo.out.2 w6 hwo.symm
                  have HB6 : Hid (Below wr.heap.size wr w6) := by show Below _ _ _; rw [← hwo]; exact (((((HB5.out.setCell (p := ⟨Bx, 0, none⟩) (by show wr.heap.size ≤ Bx; exact HZo.out.1) _).setCell (p := ⟨Bx, 1, none⟩) (by show wr.heap.size ≤ Bx; exact HZo.out.1) _).setCell (p := ⟨Bx, 2, none⟩) (by show wr.heap.size ≤ Bx; exact HZo.out.1) _).setCell (p := ⟨Bx, 3, none⟩) (by show wr.heap.size ≤ Bx; exact HZo.out.1) _).setCell (p := ⟨Bx, 4, none⟩) (by show wr.heap.size ≤ Bx; exact HZo.out.1) _)
                  have HE5 := Hid.mk e5
                  clear e5 k5 s5
                  go_simp
                  try rw [hwo]
                  clear x0 x1 x2 x3 x4 xf0 xf1 xf2 xf3 xf4 hwo hxl
                  refine hK.out _ _ (HSS.out _ HB6.out) (fun hHeld => ?_)
                  clear hK K
                  try simp only [Act.put, List.getElem_toArray, List.getElem_cons_succ, List.getElem_cons_zero, List.setIfInBounds_toArray, List.set_cons_zero, List.set_cons_succ]
                  refine wpAnyH_take (i := 11) (oi := _) (v := .bool true) rfl (by kernel_rfl) (by kernel_rfl) (by kernel_rfl) (fun _ _ _ h => h) (Or.inl ⟨by rfl, ?_⟩) (by assumption) ?_
                  · intro w hSw
                    go_simp
                  try simp only [Act.put, List.getElem_toArray, List.getElem_cons_succ, List.getElem_cons_zero, List.setIfInBounds_toArray, List.set_cons_zero, List.set_cons_succ]
                  refine wpAnyH_done (by kernel_rfl) ?_ _
                  try simp only [Act.put, List.getElem_toArray, List.getElem_cons_succ, List.getElem_cons_zero, List.setIfInBounds_toArray, List.set_cons_zero, List.set_cons_succ]
                  exact KEY Bx zk zn zt zo zN zc zp zM zd w6 ⟨HB6.out, HZo.out.1, HE5.out, HAz.out⟩
                refine AllReadyH.cons (o := _) rfl (fun K hK => ?_) AllReadyH.nil
                go_simp
                obtain ⟨w4, hwo⟩ : ∃ W, wd.alloc (.cells #[.int .i64 0, .string ⟨#[]⟩, .string ⟨#[]⟩, .slice none 0 0, .slice none 0 0] 37) = W := ⟨_, rfl⟩
                have hbo : Below wd.heap.size wd w4 := by rw [← hwo]; exact below1 _ _
                have HB4 := Hid.mk (HD.out.trans (hbo.mono HD.out.size))
                have HZo : Hid (wr.heap.size ≤ wd.heap.size ∧ w4.heap[wd.heap.size]? = some (.cells #[.int .i64 0, .string ⟨#[]⟩, .string ⟨#[]⟩, .slice none 0 0, .slice none 0 0] 37 (0, 0))) := ⟨HD.out.size, by rw [← hwo]; exact World.alloc_heap_new _ _⟩
                try rw [hwo]
                try generalize wd.heap.size = Bx at HZo ⊢
                clear hwo hbo
                refine hK.out _ _ (HSS.out _ HB4.out) (fun hHeld => ?_)
                clear hK K
                try simp only [Act.put, List.getElem_toArray, List.getElem_cons_succ, List.getElem_cons_zero, List.setIfInBounds_toArray, List.set_cons_zero, List.set_cons_succ]
                refine wpAnyH_ready (rs := [5]) (by kernel_rfl) (by simp) ?_
                refine AllReadyH.cons (o := _) rfl (fun K hK => ?_) AllReadyH.nil
                go_simp
                go_at_call 16
                refine (HStep.out _ HB4.out).mono ?_
                rintro e w5 ⟨⟨z0, z1, z2, z3, z4, rfl, hz⟩, hq⟩
                have HAz := Hid.mk hz
                obtain ⟨hz', hZ', hzI, _⟩ := hz
                obtain ⟨zk, zn, zt, zo, zN, zc, zp, zM, zd, rfl, rfl, rfl, rfl, rfl⟩ := hzI.shape
                clear hzI
                replace HZo : Hid (wr.heap.size ≤ Bx ∧ w5.heap[Bx]? = some (.cells #[.int .i64 0, .string ⟨#[]⟩, .string ⟨#[]⟩, .slice none 0 0, .slice none 0 0] 37 (0, 0))) := ⟨HZo.out.1, (hq.block _ (lt_row HZo.out.2)).trans HZo.out.2⟩
                have HB5 := Hid.mk (HB4.out.trans (hq.mono HB4.out.size))
                clear hq
                go_wp2_with fail
                refine hK.out _ _ (HSS.out _ HB5.out) (fun hHeld => ?_)
                clear hK K
                try simp only [Act.put, List.getElem_toArray, List.getElem_cons_succ, List.getElem_cons_zero, List.setIfInBounds_toArray, List.set_cons_zero, List.set_cons_succ]
                refine wpAnyH_take (i := 6) (oi := _) (v := .tuple #[.agg #[.int .i64 zk, .string zn, .string zt, .slice zo zN zc, .slice zp zM zd], .bool true]) rfl (by kernel_rfl) (by kernel_rfl) (by kernel_rfl) (fun _ _ _ h => h) (Or.inl ⟨by rfl, ?_⟩) (by assumption) ?_
                · intro w hSw
                  go_simp
                try simp only [Act.put, List.getElem_toArray, List.getElem_cons_succ, List.getElem_cons_zero, List.setIfInBounds_toArray, List.set_cons_zero, List.set_cons_succ]
                refine wpAnyH_take (i := 7) (oi := _) (v := .agg #[.int .i64 zk, .string zn, .string zt, .slice zo zN zc, .slice zp zM zd]) rfl (by kernel_rfl) (by kernel_rfl) (by kernel_rfl) (fun _ _ _ h => h) (Or.inl ⟨by rfl, ?_⟩) (by assumption) ?_
                · intro w hSw
                  go_simp
                try simp only [Act.put, List.getElem_toArray, List.getElem_cons_succ, List.getElem_cons_zero, List.setIfInBounds_toArray, List.set_cons_zero, List.set_cons_succ]
                refine wpAnyH_take (i := 8) (oi := _) (v := .bool true) rfl (by kernel_rfl) (by kernel_rfl) (by kernel_rfl) (fun _ _ _ h => h) (Or.inl ⟨by rfl, ?_⟩) (by assumption) ?_
                · intro w hSw
                  go_simp
                try simp only [Act.put, List.getElem_toArray, List.getElem_cons_succ, List.getElem_cons_zero, List.setIfInBounds_toArray, List.set_cons_zero, List.set_cons_succ]
                refine wpAnyH_ready (rs := [10]) (by kernel_rfl) (by simp) ?_
                refine AllReadyH.cons (o := _) rfl (fun K hK => ?_) AllReadyH.nil
                obtain ⟨x0, x1, x2, x3, x4, xf0, xf1, xf2, xf3, xf4⟩ := vboxM HZo.out.2
                have hxl := lt_row HZo.out.2
                obtain ⟨w6, hwo⟩ : ∃ W, (((((w5.setCell ⟨Bx, 0, none⟩ (.int .i64 zk)).setCell ⟨Bx, 1, none⟩ (.string zn)).setCell ⟨Bx, 2, none⟩ (.string zt)).setCell ⟨Bx, 3, none⟩ (.slice zo zN zc)).setCell ⟨Bx, 4, none⟩ (.slice zp zM zd)) = W := ⟨_, rfl⟩
                obtain ⟨e5, k5, s5⟩ := rboxM w5 _ _ _ _ _ _ _ _ _ _ _ _ HZo.out.2 w6 hwo.symm
                have HB6 : Hid (Below wr.heap.size wr w6) := by show Below _ _ _; rw [← hwo]; exact (((((HB5.out.setCell (p := ⟨Bx, 0, none⟩) (by show wr.heap.size ≤ Bx; exact HZo.out.1) _).setCell (p := ⟨Bx, 1, none⟩) (by show wr.heap.size ≤ Bx; exact HZo.out.1) _).setCell (p := ⟨Bx, 2, none⟩) (by show wr.heap.size ≤ Bx; exact HZo.out.1) _).setCell (p := ⟨Bx, 3, none⟩) (by show wr.heap.size ≤ Bx; exact HZo.out.1) _).setCell (p := ⟨Bx, 4, none⟩) (by show wr.heap.size ≤ Bx; exact HZo.out.1) _)
                have HE5 := Hid.mk e5
                clear e5 k5 s5
                go_simp
                try rw [hwo]
                clear x0 x1 x2 x3 x4 xf0 xf1 xf2 xf3 xf4 hwo hxl
                refine hK.out _ _ (HSS.out _ HB6.out) (fun hHeld => ?_)
                clear hK K
                try simp only [Act.put, List.getElem_toArray, List.getElem_cons_succ, List.getElem_cons_zero, List.setIfInBounds_toArray, List.set_cons_zero, List.set_cons_succ]
                refine wpAnyH_take (i := 11) (oi := _) (v := .bool true) rfl (by kernel_rfl) (by kernel_rfl) (by kernel_rfl) (fun _ _ _ h => h) (Or.inl ⟨by rfl, ?_⟩) (by assumption) ?_
                · intro w hSw
                  go_simp
                try simp only [Act.put, List.getElem_toArray, List.getElem_cons_succ, List.getElem_cons_zero, List.setIfInBounds_toArray, List.set_cons_zero, List.set_cons_succ]
                refine wpAnyH_done (by kernel_rfl) ?_ _
                try simp only [Act.put, List.getElem_toArray, List.getElem_cons_succ, List.getElem_cons_zero, List.setIfInBounds_toArray, List.set_cons_zero, List.set_cons_succ]
                exact KEY Bx zk zn zt zo zN zc zp zM zd w6 ⟨HB6.out, HZo.out.1, HE5.out, HAz.out⟩
                case key =>
                  intro B zk zn zt zo zN zc zp zM zd W8 HW
                  obtain ⟨hb8, hBw, hbz, hat⟩ := HW.out
                  have HAn := Hid.mk hat
                  obtain ⟨b0, b1, b2, b3, b4, bf0, bf1, bf2, bf3, bf4⟩ := vboxM hbz
                  have hxb := (hb8.block _ (lt_row HXb.out.box)).trans HXb.out.box
                  obtain ⟨x0, x1, x2, x3, x4, xf0, xf1, xf2, xf3, xf4⟩ := vboxM hxb
                  have hxl := lt_row hxb
                  obtain ⟨W9, hW9⟩ : ∃ W, (((((W8.setCell ⟨w7.heap.size, 0, none⟩ (.int .i64 zk)).setCell ⟨w7.heap.size, 1, none⟩ (.string zn)).setCell ⟨w7.heap.size, 2, none⟩ (.string zt)).setCell ⟨w7.heap.size, 3, none⟩ (.slice zo zN zc)).setCell ⟨w7.heap.size, 4, none⟩ (.slice zp zM zd)) = W := ⟨_, rfl⟩
                  obtain ⟨e5, k5, s5⟩ := rboxM W8 _ _ _ _ _ _ _ _ _ _ _ _ hxb W9 hW9.symm
                  have HX9 : Hid (XB w7 W9 #[.int .i64 zk, .string zn, .string zt, .slice zo zN zc, .slice zp zM zd]) := ⟨by rw [← hW9]; exact ((((((HXb.out.below.trans (hb8.mono HXb.out.below.size)).setCell (p := ⟨w7.heap.size, 0, none⟩) (Nat.le_refl _) _).setCell (p := ⟨w7.heap.size, 1, none⟩) (Nat.le_refl _) _).setCell (p := ⟨w7.heap.size, 2, none⟩) (Nat.le_refl _) _).setCell (p := ⟨w7.heap.size, 3, none⟩) (Nat.le_refl _) _).setCell (p := ⟨w7.heap.size, 4, none⟩) (Nat.le_refl _) _), e5⟩
                  clear e5 k5 s5 hat hb8 hbz hxb HW
                  go_wp2_with fail
                  go_roundw
                  case rel => exact ⟨k + 1, zk, zn, zt, zo, zN, zc, zp, zM, zd, by omega, by go_num, HX9, HAn⟩
                  case measure => simp [intOf]; omega
              · obtain rfl : k = M := by omega
                have hl1 : ¬ (k : Int) < (k : Int) := by omega
                have hl0 : (0 : Int) ≤ (k : Int) := by omega
                have hlN : (k : Int) < (N : Int) := by have := HM.out.2.1; omega
                have hkP : k < P.length := by have := HM.out.2.1; rw [HN.out]; omega
                have hA := HAt.out
                rw [List.drop_eq_getElem_cons hkP, List.drop_of_length_le (by have := HM.out.2.2; rw [HN.out]; omega)] at hA
                obtain ⟨hx, X, hIX, _, _, _, hl⟩ := hA
                rcases hl with ⟨_, _, h6k, k0, hs, hno⟩ | ⟨_, _, _, _, _, hl⟩ | ⟨_, _, _, _, _, _, _, hl⟩
                · obtain ⟨b, off, hpo, hbl, hrow⟩ := (HP.out.keep HXb.out.below).row (by omega)
                  subst hpo
                  obtain ⟨g0, g1, g2, g3, g4, ⟨c0, c1, c2, c3, c4⟩, hgs⟩ := hrow k hkP
                  rw [hs] at hgs
                  obtain ⟨gq, gc, gp, gd, eg, _⟩ := hgs.open
                  simp only [Value.agg.injEq, Array.mk.injEq, List.cons.injEq, and_true] at eg
                  obtain ⟨rfl, rfl, rfl, rfl, rfl⟩ := eg
                  cases hx with
                  | zero => exact hIX.elim
                  | succ hx =>
                    obtain ⟨xo, xc, xp, xd, ex, _, _, _, a4, _, a6, _, hkn, _⟩ := hIX.open
                    simp only [Value.agg.injEq, Array.mk.injEq, List.cons.injEq, and_true, Value.int.injEq, Value.string.injEq, Value.slice.injEq, true_and] at ex
                    obtain ⟨rfl, rfl, rfl, ⟨rfl, rfl, rfl⟩, ⟨rfl, rfl, rfl⟩⟩ := ex
                    have HHas := Hid.mk (fun u (hu : Below wr.heap.size wr u) => (w_rHas yp X.keys.length yd X.keys k0 u ((hkn.keep HXb.out.below).keep hu) rfl a6 a4).mono (fun e w' hh => (show e = .returned (.bool (hasK X.keys k0)) ∧ Below u.heap.size u w' from ⟨hh.1, by rw [hh.2]; exact Below.refl _ _⟩)))
                    rw [hno] at HHas
                    obtain ⟨x0, x1, x2, x3, x4, _, _, _, _, _⟩ := vboxM HXb.out.box
                    rw [h6k] at x0
                    replace c0 : wr.cell? ⟨b, off + k * 5, none⟩ = some (.int .i64 4) := c0
                    replace c2 : wr.cell? ⟨b, off + k * 5 + 2, none⟩ = some (.string k0) := c2
                    have Ax0 := fun d os => cell_regrown x0 d os
                    have Ax4 := fun d os => cell_regrown x4 d os
                    have Ac0 := fun d os => cell_regrown c0 d os
                    have Ac2 := fun d os => cell_regrown c2 d os
                    have HC := Hid.mk (fun (d : Nat) (os : Array Obj) => HHas.out (grow (redrawn wr d) os) (below_regrown wr d os))
                    clear hgs hrow hkn hIX c1 c3 c4
                    go_wp2_with fail
                    refine wp_region_quiet_below (by kernel_rfl) (by kernel_rfl) ?_
                    repeat (go_big_quiet_step (exact Calls.regrown_of (HC.out _ _)))
                    refine wpQuiet_nil ?_
                    intro w9 hw'
                    have hb9 : Below wr.heap.size wr w9 := by
                      obtain ⟨⟨dq, osq⟩, rfl⟩ := hw'
                      exact below_regrown wr dq osq
                    have HB9 := Hid.mk (HXb.out.below.trans (hb9.mono HXb.out.below.size))
                    clear hw' hb9 HC Ax0 Ax4 Ac0 Ac2
                    go_wp2_with fail
                    go_ret
                    exact ⟨rfl, HX7.out.below.trans (HB9.out.mono HX7.out.below.size)⟩
                · exact absurd rfl hl
                · exact absurd rfl hl
          · obtain ⟨M, hM⟩ : ∃ M, N = M := ⟨_, rfl⟩
            have HM : Hid (M ≤ N ∧ True) := ⟨by omega, trivial⟩
            have h6b : (r == 6) = false := by rw [beq_eq_false_iff_ne]; exact h6
            have hM0 : ¬ (N : Int) < 0 := by omega
            subst hM
            go_wp2_with fail
            go_loopw [12] (fun i wr => ∃ (k : Nat) (yk : Int) (yn yt : ByteArray) (yo : Option Addr) (yN yc : Nat) (yp : Option Addr) (yM yd : Nat), k ≤ N ∧ i = .int .i64 (k : Int) ∧ Hid (XB w7 wr #[.int .i64 yk, .string yn, .string yt, .slice yo yN yc, .slice yp yM yd]) ∧ Hid (At w7 r (P.drop k) (.agg #[.int .i64 yk, .string yn, .string yt, .slice yo yN yc, .slice yp yM yd]))) (fun i _ => N - (intOf i).toNat)
            case atStart => exact ⟨0, kd, nm, tx, io, NI, icap, vo, NK, vcap, Nat.zero_le _, rfl, xb_new w7 _, HAt⟩
            case round =>
              clear HAt p0 p1 p2 p3 p4
              obtain ⟨k, yk, yn, yt, yo, yN, yc, yp, yM, yd, hkM, rfl, HXb, HAt⟩ := hrel
              by_cases hlt : k < N
              · have hl1 : (k : Int) < (N : Int) := by omega
                have hl0 : (0 : Int) ≤ (k : Int) := by omega
                have hlN : (k : Int) < (N : Int) := by have := HM.out.1; omega
                have hkP : k < P.length := by have := HM.out.1; rw [HN.out]; omega
                obtain ⟨b, off, hpo, hbl, hrow⟩ := (HP.out.keep HXb.out.below).row (by omega)
                subst hpo
                obtain ⟨g0, g1, g2, g3, g4, ⟨c0, c1, c2, c3, c4⟩, hgs⟩ := hrow k hkP
                obtain ⟨gk, gn, gx, gq, gN, gc, gp, gM, gd, rfl, rfl, rfl, rfl, rfl⟩ := hgs.shape
                have hA := HAt.out
                rw [List.drop_eq_getElem_cons hkP] at hA
                have HStep := Hid.mk (fun u (hu : Below wr.heap.size wr u) => step_at r P[k] (P.drop (k + 1)) _ _ w7 u (HXb.out.below.trans (hu.mono HXb.out.below.size)) hA (by
                  intro h6' e
                  have e2 := congrArg List.length e
                  rw [List.length_drop, List.length_nil, HN.out] at e2
                  exact absurd h6' h6) (hgs.keep hu))
                have HSS : Hid (∀ u, Below wr.heap.size wr u → u.cell? ⟨w7.heap.size, 0, none⟩ = some (.int .i64 yk) ∧ u.cell? ⟨w7.heap.size, 1, none⟩ = some (.string yn) ∧ u.cell? ⟨w7.heap.size, 2, none⟩ = some (.string yt) ∧ u.cell? ⟨w7.heap.size, 3, none⟩ = some (.slice yo yN yc) ∧ u.cell? ⟨w7.heap.size, 4, none⟩ = some (.slice yp yM yd) ∧ u.cell? ⟨b, off + k * 5, none⟩ = some (.int .i64 gk) ∧ u.cell? ⟨b, off + k * 5 + 1, none⟩ = some (.string gn) ∧ u.cell? ⟨b, off + k * 5 + 2, none⟩ = some (.string gx) ∧ u.cell? ⟨b, off + k * 5 + 3, none⟩ = some (.slice gq gN gc) ∧ u.cell? ⟨b, off + k * 5 + 4, none⟩ = some (.slice gp gM gd)) := fun u hu => by
                  have hx := fun j => (hu.cell (p := ⟨w7.heap.size, j, none⟩) (lt_row HXb.out.box)).trans (cell_of_row _ _ j _ _ _ HXb.out.box)
                  exact ⟨hx 0, hx 1, hx 2, hx 3, hx 4, (hu.cell (p := ⟨_, _, _⟩) hbl).trans c0, (hu.cell (p := ⟨_, _, _⟩) hbl).trans c1, (hu.cell (p := ⟨_, _, _⟩) hbl).trans c2, (hu.cell (p := ⟨_, _, _⟩) hbl).trans c3, (hu.cell (p := ⟨_, _, _⟩) hbl).trans c4⟩
                obtain ⟨wd, hwd⟩ : ∃ wd, wr.drew = wd := ⟨_, rfl⟩
                have HD : Hid (Below wr.heap.size wr wd) := by show Below _ _ _; rw [← hwd]; exact (Below.refl wr.heap.size wr).drew
                have HDq := Hid.mk hwd
                clear hwd
                clear hA hgs hrow c0 c1 c2 c3 c4 hkP
                go_wp2_with fail
                have KEY : ∀ (B : Nat) (zk : Int) (zn zt : ByteArray) (zo : Option Addr) (zN zc : Nat) (zp : Option Addr) (zM zd : Nat) (W8 : World), Hid (Below wr.heap.size wr W8 ∧ wr.heap.size ≤ B ∧ W8.heap[B]? = some (.cells #[.int .i64 zk, .string zn, .string zt, .slice zo zN zc, .slice zp zM zd] 37 (0, 0)) ∧ At w7 r (P.drop (k + 1)) (.agg #[.int .i64 zk, .string zn, .string zt, .slice zo zN zc, .slice zp zM zd])) → (?PQ : Nat → Int → ByteArray → ByteArray → Option Addr → Nat → Nat → Option Addr → Nat → Nat → World → Prop) B zk zn zt zo zN zc zp zM zd W8 := ?keyb
                refine wp_region_held_drew (S := fun u => u.cell? ⟨w7.heap.size, 0, none⟩ = some (.int .i64 yk) ∧ u.cell? ⟨w7.heap.size, 1, none⟩ = some (.string yn) ∧ u.cell? ⟨w7.heap.size, 2, none⟩ = some (.string yt) ∧ u.cell? ⟨w7.heap.size, 3, none⟩ = some (.slice yo yN yc) ∧ u.cell? ⟨w7.heap.size, 4, none⟩ = some (.slice yp yM yd) ∧ u.cell? ⟨b, off + k * 5, none⟩ = some (.int .i64 gk) ∧ u.cell? ⟨b, off + k * 5 + 1, none⟩ = some (.string gn) ∧ u.cell? ⟨b, off + k * 5 + 2, none⟩ = some (.string gx) ∧ u.cell? ⟨b, off + k * 5 + 3, none⟩ = some (.slice gq gN gc) ∧ u.cell? ⟨b, off + k * 5 + 4, none⟩ = some (.slice gp gM gd)) (by kernel_rfl) (by rw [HDq.out]; exact HSS.out _ HD.out) (fun hHeld => ?_)
                rw [HDq.out] at hHeld ⊢
                refine wpAnyH_take (i := 0) (oi := _) (v := .agg #[.int .i64 yk, .string yn, .string yt, .slice yo yN yc, .slice yp yM yd]) rfl (by kernel_rfl) (by kernel_rfl) (by kernel_rfl) (fun _ _ _ h => h) (Or.inl ⟨by rfl, ?_⟩) (by assumption) ?_
                · intro w hSw
                  go_simp
                try simp only [Act.put, List.getElem_toArray, List.getElem_cons_succ, List.getElem_cons_zero, List.setIfInBounds_toArray, List.set_cons_zero, List.set_cons_succ]
                refine wpAnyH_take (i := 1) (oi := _) (v := .slice (some ⟨b, off, none⟩) N pc) rfl (by kernel_rfl) (by kernel_rfl) (by kernel_rfl) (fun _ _ _ h => h) (Or.inl ⟨by rfl, ?_⟩) (by assumption) ?_
                · intro w hSw
                  go_simp
                try simp only [Act.put, List.getElem_toArray, List.getElem_cons_succ, List.getElem_cons_zero, List.setIfInBounds_toArray, List.set_cons_zero, List.set_cons_succ]
                refine wpAnyH_take (i := 2) (oi := _) (v := .int .i64 (k : Int)) rfl (by kernel_rfl) (by kernel_rfl) (by kernel_rfl) (fun _ _ _ h => h) (Or.inl ⟨by rfl, ?_⟩) (by assumption) ?_
                · intro w hSw
                  go_simp
                try simp only [Act.put, List.getElem_toArray, List.getElem_cons_succ, List.getElem_cons_zero, List.setIfInBounds_toArray, List.set_cons_zero, List.set_cons_succ]
                refine wpAnyH_take (i := 3) (oi := _) (v := .pointer (some ⟨b, off + k * 5, none⟩)) rfl (by kernel_rfl) (by kernel_rfl) (by kernel_rfl) (fun _ _ _ h => h) (Or.inl ⟨by rfl, ?_⟩) (by assumption) ?_
                · intro w hSw
                  go_simp
                try simp only [Act.put, List.getElem_toArray, List.getElem_cons_succ, List.getElem_cons_zero, List.setIfInBounds_toArray, List.set_cons_zero, List.set_cons_succ]
                refine wpAnyH_take (i := 4) (oi := _) (v := .agg #[.int .i64 gk, .string gn, .string gx, .slice gq gN gc, .slice gp gM gd]) rfl (by kernel_rfl) (by kernel_rfl) (by kernel_rfl) (fun _ _ _ h => h) (Or.inl ⟨by rfl, ?_⟩) (by assumption) ?_
                · intro w hSw
                  go_simp
                try simp only [Act.put, List.getElem_toArray, List.getElem_cons_succ, List.getElem_cons_zero, List.setIfInBounds_toArray, List.set_cons_zero, List.set_cons_succ]
                refine wpAnyH_ready (rs := [5, 9]) (by kernel_rfl) (by simp) ?_
                refine AllReadyH.cons (o := _) rfl (fun K hK => ?_) ?_
                · skip
                  go_simp
                  go_at_call 16
                  refine (HStep.out _ HD.out).mono ?_
                  rintro e w4 ⟨⟨z0, z1, z2, z3, z4, rfl, hz⟩, hq⟩
                  have HAz := Hid.mk hz
                  obtain ⟨hz', hZ', hzI, _⟩ := hz
                  obtain ⟨zk, zn, zt, zo, zN, zc, zp, zM, zd, rfl, rfl, rfl, rfl, rfl⟩ := hzI.shape
                  clear hzI
                  have HB4 := Hid.mk (HD.out.trans (hq.mono HD.out.size))
                  clear hq
                  go_wp2_with fail
                  refine hK.out _ _ (HSS.out _ HB4.out) (fun hHeld => ?_)
                  clear hK K
                  try simp only [Act.put, List.getElem_toArray, List.getElem_cons_succ, List.getElem_cons_zero, List.setIfInBounds_toArray, List.set_cons_zero, List.set_cons_succ]
                  refine wpAnyH_take (i := 6) (oi := _) (v := .tuple #[.agg #[.int .i64 zk, .string zn, .string zt, .slice zo zN zc, .slice zp zM zd], .bool true]) rfl (by kernel_rfl) (by kernel_rfl) (by kernel_rfl) (fun _ _ _ h => h) (Or.inl ⟨by rfl, ?_⟩) (by assumption) ?_
                  · intro w hSw
                    go_simp
                  try simp only [Act.put, List.getElem_toArray, List.getElem_cons_succ, List.getElem_cons_zero, List.setIfInBounds_toArray, List.set_cons_zero, List.set_cons_succ]
                  refine wpAnyH_take (i := 7) (oi := _) (v := .agg #[.int .i64 zk, .string zn, .string zt, .slice zo zN zc, .slice zp zM zd]) rfl (by kernel_rfl) (by kernel_rfl) (by kernel_rfl) (fun _ _ _ h => h) (Or.inl ⟨by rfl, ?_⟩) (by assumption) ?_
                  · intro w hSw
                    go_simp
                  try simp only [Act.put, List.getElem_toArray, List.getElem_cons_succ, List.getElem_cons_zero, List.setIfInBounds_toArray, List.set_cons_zero, List.set_cons_succ]
                  refine wpAnyH_take (i := 8) (oi := _) (v := .bool true) rfl (by kernel_rfl) (by kernel_rfl) (by kernel_rfl) (fun _ _ _ h => h) (Or.inl ⟨by rfl, ?_⟩) (by assumption) ?_
                  · intro w hSw
                    go_simp
                  try simp only [Act.put, List.getElem_toArray, List.getElem_cons_succ, List.getElem_cons_zero, List.setIfInBounds_toArray, List.set_cons_zero, List.set_cons_succ]
                  refine wpAnyH_ready (rs := [9]) (by kernel_rfl) (by simp) ?_
                  refine AllReadyH.cons (o := _) rfl (fun K hK => ?_) AllReadyH.nil
                  go_simp
                  obtain ⟨w5, hwo⟩ : ∃ W, w4.alloc (.cells #[.int .i64 0, .string ⟨#[]⟩, .string ⟨#[]⟩, .slice none 0 0, .slice none 0 0] 37) = W := ⟨_, rfl⟩
                  have hbo : Below w4.heap.size w4 w5 := by rw [← hwo]; exact below1 _ _
                  have HB5 := Hid.mk (HB4.out.trans (hbo.mono HB4.out.size))
                  have HZo : Hid (wr.heap.size ≤ w4.heap.size ∧ w5.heap[w4.heap.size]? = some (.cells #[.int .i64 0, .string ⟨#[]⟩, .string ⟨#[]⟩, .slice none 0 0, .slice none 0 0] 37 (0, 0))) := ⟨HB4.out.size, by rw [← hwo]; exact World.alloc_heap_new _ _⟩
                  try rw [hwo]
                  try generalize w4.heap.size = Bx at HZo ⊢
                  clear hwo hbo
                  refine hK.out _ _ (HSS.out _ HB5.out) (fun hHeld => ?_)
                  clear hK K
                  try simp only [Act.put, List.getElem_toArray, List.getElem_cons_succ, List.getElem_cons_zero, List.setIfInBounds_toArray, List.set_cons_zero, List.set_cons_succ]
                  refine wpAnyH_ready (rs := [10]) (by kernel_rfl) (by simp) ?_
                  refine AllReadyH.cons (o := _) rfl (fun K hK => ?_) AllReadyH.nil
                  obtain ⟨x0, x1, x2, x3, x4, xf0, xf1, xf2, xf3, xf4⟩ := vboxM HZo.out.2
                  have hxl := lt_row HZo.out.2
                  obtain ⟨w6, hwo⟩ : ∃ W, (((((w5.setCell ⟨Bx, 0, none⟩ (.int .i64 zk)).setCell ⟨Bx, 1, none⟩ (.string zn)).setCell ⟨Bx, 2, none⟩ (.string zt)).setCell ⟨Bx, 3, none⟩ (.slice zo zN zc)).setCell ⟨Bx, 4, none⟩ (.slice zp zM zd)) = W := ⟨_, rfl⟩
                  obtain ⟨e5, k5, s5⟩ := rboxM w5 _ _ _ _ _ _ _ _ _ _ _ _ HZo.out.2 w6 hwo.symm
                  have HB6 : Hid (Below wr.heap.size wr w6) := by show Below _ _ _; rw [← hwo]; exact (((((HB5.out.setCell (p := ⟨Bx, 0, none⟩) (by show wr.heap.size ≤ Bx; exact HZo.out.1) _).setCell (p := ⟨Bx, 1, none⟩) (by show wr.heap.size ≤ Bx; exact HZo.out.1) _).setCell (p := ⟨Bx, 2, none⟩) (by show wr.heap.size ≤ Bx; exact HZo.out.1) _).setCell (p := ⟨Bx, 3, none⟩) (by show wr.heap.size ≤ Bx; exact HZo.out.1) _).setCell (p := ⟨Bx, 4, none⟩) (by show wr.heap.size ≤ Bx; exact HZo.out.1) _)
                  have HE5 := Hid.mk e5
                  clear e5 k5 s5
                  go_simp
                  try rw [hwo]
                  clear x0 x1 x2 x3 x4 xf0 xf1 xf2 xf3 xf4 hwo hxl
                  refine hK.out _ _ (HSS.out _ HB6.out) (fun hHeld => ?_)
                  clear hK K
                  try simp only [Act.put, List.getElem_toArray, List.getElem_cons_succ, List.getElem_cons_zero, List.setIfInBounds_toArray, List.set_cons_zero, List.set_cons_succ]
                  refine wpAnyH_take (i := 11) (oi := _) (v := .bool true) rfl (by kernel_rfl) (by kernel_rfl) (by kernel_rfl) (fun _ _ _ h => h) (Or.inl ⟨by rfl, ?_⟩) (by assumption) ?_
                  · intro w hSw
                    go_simp
                  try simp only [Act.put, List.getElem_toArray, List.getElem_cons_succ, List.getElem_cons_zero, List.setIfInBounds_toArray, List.set_cons_zero, List.set_cons_succ]
                  refine wpAnyH_done (by kernel_rfl) ?_ _
                  try simp only [Act.put, List.getElem_toArray, List.getElem_cons_succ, List.getElem_cons_zero, List.setIfInBounds_toArray, List.set_cons_zero, List.set_cons_succ]
                  exact KEY Bx zk zn zt zo zN zc zp zM zd w6 ⟨HB6.out, HZo.out.1, HE5.out, HAz.out⟩
                refine AllReadyH.cons (o := _) rfl (fun K hK => ?_) AllReadyH.nil
                go_simp
                obtain ⟨w4, hwo⟩ : ∃ W, wd.alloc (.cells #[.int .i64 0, .string ⟨#[]⟩, .string ⟨#[]⟩, .slice none 0 0, .slice none 0 0] 37) = W := ⟨_, rfl⟩
                have hbo : Below wd.heap.size wd w4 := by rw [← hwo]; exact below1 _ _
                have HB4 := Hid.mk (HD.out.trans (hbo.mono HD.out.size))
                have HZo : Hid (wr.heap.size ≤ wd.heap.size ∧ w4.heap[wd.heap.size]? = some (.cells #[.int .i64 0, .string ⟨#[]⟩, .string ⟨#[]⟩, .slice none 0 0, .slice none 0 0] 37 (0, 0))) := ⟨HD.out.size, by rw [← hwo]; exact World.alloc_heap_new _ _⟩
                try rw [hwo]
                try generalize wd.heap.size = Bx at HZo ⊢
                clear hwo hbo
                refine hK.out _ _ (HSS.out _ HB4.out) (fun hHeld => ?_)
                clear hK K
                try simp only [Act.put, List.getElem_toArray, List.getElem_cons_succ, List.getElem_cons_zero, List.setIfInBounds_toArray, List.set_cons_zero, List.set_cons_succ]
                refine wpAnyH_ready (rs := [5]) (by kernel_rfl) (by simp) ?_
                refine AllReadyH.cons (o := _) rfl (fun K hK => ?_) AllReadyH.nil
                go_simp
                go_at_call 16
                refine (HStep.out _ HB4.out).mono ?_
                rintro e w5 ⟨⟨z0, z1, z2, z3, z4, rfl, hz⟩, hq⟩
                have HAz := Hid.mk hz
                obtain ⟨hz', hZ', hzI, _⟩ := hz
                obtain ⟨zk, zn, zt, zo, zN, zc, zp, zM, zd, rfl, rfl, rfl, rfl, rfl⟩ := hzI.shape
                clear hzI
                replace HZo : Hid (wr.heap.size ≤ Bx ∧ w5.heap[Bx]? = some (.cells #[.int .i64 0, .string ⟨#[]⟩, .string ⟨#[]⟩, .slice none 0 0, .slice none 0 0] 37 (0, 0))) := ⟨HZo.out.1, (hq.block _ (lt_row HZo.out.2)).trans HZo.out.2⟩
                have HB5 := Hid.mk (HB4.out.trans (hq.mono HB4.out.size))
                clear hq
                go_wp2_with fail
                refine hK.out _ _ (HSS.out _ HB5.out) (fun hHeld => ?_)
                clear hK K
                try simp only [Act.put, List.getElem_toArray, List.getElem_cons_succ, List.getElem_cons_zero, List.setIfInBounds_toArray, List.set_cons_zero, List.set_cons_succ]
                refine wpAnyH_take (i := 6) (oi := _) (v := .tuple #[.agg #[.int .i64 zk, .string zn, .string zt, .slice zo zN zc, .slice zp zM zd], .bool true]) rfl (by kernel_rfl) (by kernel_rfl) (by kernel_rfl) (fun _ _ _ h => h) (Or.inl ⟨by rfl, ?_⟩) (by assumption) ?_
                · intro w hSw
                  go_simp
                try simp only [Act.put, List.getElem_toArray, List.getElem_cons_succ, List.getElem_cons_zero, List.setIfInBounds_toArray, List.set_cons_zero, List.set_cons_succ]
                refine wpAnyH_take (i := 7) (oi := _) (v := .agg #[.int .i64 zk, .string zn, .string zt, .slice zo zN zc, .slice zp zM zd]) rfl (by kernel_rfl) (by kernel_rfl) (by kernel_rfl) (fun _ _ _ h => h) (Or.inl ⟨by rfl, ?_⟩) (by assumption) ?_
                · intro w hSw
                  go_simp
                try simp only [Act.put, List.getElem_toArray, List.getElem_cons_succ, List.getElem_cons_zero, List.setIfInBounds_toArray, List.set_cons_zero, List.set_cons_succ]
                refine wpAnyH_take (i := 8) (oi := _) (v := .bool true) rfl (by kernel_rfl) (by kernel_rfl) (by kernel_rfl) (fun _ _ _ h => h) (Or.inl ⟨by rfl, ?_⟩) (by assumption) ?_
                · intro w hSw
                  go_simp
                try simp only [Act.put, List.getElem_toArray, List.getElem_cons_succ, List.getElem_cons_zero, List.setIfInBounds_toArray, List.set_cons_zero, List.set_cons_succ]
                refine wpAnyH_ready (rs := [10]) (by kernel_rfl) (by simp) ?_
                refine AllReadyH.cons (o := _) rfl (fun K hK => ?_) AllReadyH.nil
                obtain ⟨x0, x1, x2, x3, x4, xf0, xf1, xf2, xf3, xf4⟩ := vboxM HZo.out.2
                have hxl := lt_row HZo.out.2
                obtain ⟨w6, hwo⟩ : ∃ W, (((((w5.setCell ⟨Bx, 0, none⟩ (.int .i64 zk)).setCell ⟨Bx, 1, none⟩ (.string zn)).setCell ⟨Bx, 2, none⟩ (.string zt)).setCell ⟨Bx, 3, none⟩ (.slice zo zN zc)).setCell ⟨Bx, 4, none⟩ (.slice zp zM zd)) = W := ⟨_, rfl⟩
                obtain ⟨e5, k5, s5⟩ := rboxM w5 _ _ _ _ _ _ _ _ _ _ _ _ HZo.out.2 w6 hwo.symm
                have HB6 : Hid (Below wr.heap.size wr w6) := by show Below _ _ _; rw [← hwo]; exact (((((HB5.out.setCell (p := ⟨Bx, 0, none⟩) (by show wr.heap.size ≤ Bx; exact HZo.out.1) _).setCell (p := ⟨Bx, 1, none⟩) (by show wr.heap.size ≤ Bx; exact HZo.out.1) _).setCell (p := ⟨Bx, 2, none⟩) (by show wr.heap.size ≤ Bx; exact HZo.out.1) _).setCell (p := ⟨Bx, 3, none⟩) (by show wr.heap.size ≤ Bx; exact HZo.out.1) _).setCell (p := ⟨Bx, 4, none⟩) (by show wr.heap.size ≤ Bx; exact HZo.out.1) _)
                have HE5 := Hid.mk e5
                clear e5 k5 s5
                go_simp
                try rw [hwo]
                clear x0 x1 x2 x3 x4 xf0 xf1 xf2 xf3 xf4 hwo hxl
                refine hK.out _ _ (HSS.out _ HB6.out) (fun hHeld => ?_)
                clear hK K
                try simp only [Act.put, List.getElem_toArray, List.getElem_cons_succ, List.getElem_cons_zero, List.setIfInBounds_toArray, List.set_cons_zero, List.set_cons_succ]
                refine wpAnyH_take (i := 11) (oi := _) (v := .bool true) rfl (by kernel_rfl) (by kernel_rfl) (by kernel_rfl) (fun _ _ _ h => h) (Or.inl ⟨by rfl, ?_⟩) (by assumption) ?_
                · intro w hSw
                  go_simp
                try simp only [Act.put, List.getElem_toArray, List.getElem_cons_succ, List.getElem_cons_zero, List.setIfInBounds_toArray, List.set_cons_zero, List.set_cons_succ]
                refine wpAnyH_done (by kernel_rfl) ?_ _
                try simp only [Act.put, List.getElem_toArray, List.getElem_cons_succ, List.getElem_cons_zero, List.setIfInBounds_toArray, List.set_cons_zero, List.set_cons_succ]
                exact KEY Bx zk zn zt zo zN zc zp zM zd w6 ⟨HB6.out, HZo.out.1, HE5.out, HAz.out⟩
                case keyb =>
                  intro B zk zn zt zo zN zc zp zM zd W8 HW
                  obtain ⟨hb8, hBw, hbz, hat⟩ := HW.out
                  have HAn := Hid.mk hat
                  obtain ⟨b0, b1, b2, b3, b4, bf0, bf1, bf2, bf3, bf4⟩ := vboxM hbz
                  have hxb := (hb8.block _ (lt_row HXb.out.box)).trans HXb.out.box
                  obtain ⟨x0, x1, x2, x3, x4, xf0, xf1, xf2, xf3, xf4⟩ := vboxM hxb
                  have hxl := lt_row hxb
                  obtain ⟨W9, hW9⟩ : ∃ W, (((((W8.setCell ⟨w7.heap.size, 0, none⟩ (.int .i64 zk)).setCell ⟨w7.heap.size, 1, none⟩ (.string zn)).setCell ⟨w7.heap.size, 2, none⟩ (.string zt)).setCell ⟨w7.heap.size, 3, none⟩ (.slice zo zN zc)).setCell ⟨w7.heap.size, 4, none⟩ (.slice zp zM zd)) = W := ⟨_, rfl⟩
                  obtain ⟨e5, k5, s5⟩ := rboxM W8 _ _ _ _ _ _ _ _ _ _ _ _ hxb W9 hW9.symm
                  have HX9 : Hid (XB w7 W9 #[.int .i64 zk, .string zn, .string zt, .slice zo zN zc, .slice zp zM zd]) := ⟨by rw [← hW9]; exact ((((((HXb.out.below.trans (hb8.mono HXb.out.below.size)).setCell (p := ⟨w7.heap.size, 0, none⟩) (Nat.le_refl _) _).setCell (p := ⟨w7.heap.size, 1, none⟩) (Nat.le_refl _) _).setCell (p := ⟨w7.heap.size, 2, none⟩) (Nat.le_refl _) _).setCell (p := ⟨w7.heap.size, 3, none⟩) (Nat.le_refl _) _).setCell (p := ⟨w7.heap.size, 4, none⟩) (Nat.le_refl _) _), e5⟩
                  clear e5 k5 s5 hat hb8 hbz hxb HW
                  go_wp2_with fail
                  go_roundw
                  case rel => exact ⟨k + 1, zk, zn, zt, zo, zN, zc, zp, zM, zd, by omega, by go_num, HX9, HAn⟩
                  case measure => simp [intOf]; omega
              · obtain rfl : k = N := by omega
                have hl1 : ¬ (k : Int) < (k : Int) := by omega
                go_wp2_with fail
                go_ret
                exact ⟨rfl, HX7.out.below.trans (HXb.out.below.mono HX7.out.below.size)⟩
      · have hds : decide (sumL ([V].map (szN hv)) ≤ 20000) = false := decide_eq_false hsz
        rw [hds]
        clear hds hsz
        go_wp2_with fail
        go_ret
        exact ⟨rfl, HX5.out.below⟩
end Go.Proofs.YtapjfocjeligiaaGreatDoor
