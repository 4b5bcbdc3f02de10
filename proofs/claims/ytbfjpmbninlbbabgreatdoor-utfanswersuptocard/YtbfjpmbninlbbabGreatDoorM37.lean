import Derived.Test.YtbfjpmbninlbbabGreatDoorM26
import Derived.Test.YtbfjpmbninlbbabGreatDoorM29
import Derived.Test.YtbfjpmbninlbbabGreatDoorM32
import Derived.Test.YtbfjpmbninlbbabGreatDoorM35
import Derived.Test.YtbfjpmbninlbbabGreatDoorM9
import Derived.Test.YtbfjpmbninlbbabGreatDoorM36
import Derived.Deep.RegionWith
namespace Go.Proofs.YtbfjpmbninlbbabGreatDoor
open Go.RowKit
set_option linter.unusedVariables false
set_option linter.unusedSimpArgs false

/-- the call's box -/
structure OBx (w u : World) (k : Int) (S P : ByteArray) (f t : Int) (r : Value) : Prop where
  below : Below w.heap.size w u
  c0 : u.cell? ⟨w.heap.size, 0, none⟩ = some (.int .i64 k)
  c1 : u.cell? ⟨w.heap.size, 1, none⟩ = some (.string S)
  c2 : u.cell? ⟨w.heap.size, 2, none⟩ = some (.string P)
  c3 : u.cell? ⟨w.heap.size, 3, none⟩ = some (.int .i64 f)
  c4 : u.cell? ⟨w.heap.size, 4, none⟩ = some (.int .i64 t)
  c5 : u.cell? ⟨w.heap.size, 5, none⟩ = some r
  lt : w.heap.size < u.heap.size
theorem OBx.keep {w u u' : World} {k : Int} {S P : ByteArray} {f t : Int} {r : Value} (h : OBx w u k S P f t r) (hb : Below u.heap.size u u') : OBx w u' k S P f t r :=
  ⟨h.below.trans (hb.mono h.below.size), (hb.cell (p := ⟨_, _, _⟩) h.lt).trans h.c0, (hb.cell (p := ⟨_, _, _⟩) h.lt).trans h.c1, (hb.cell (p := ⟨_, _, _⟩) h.lt).trans h.c2, (hb.cell (p := ⟨_, _, _⟩) h.lt).trans h.c3, (hb.cell (p := ⟨_, _, _⟩) h.lt).trans h.c4, (hb.cell (p := ⟨_, _, _⟩) h.lt).trans h.c5, Nat.lt_of_lt_of_le h.lt hb.size⟩
theorem OBx.drew {w u : World} {k : Int} {S P : ByteArray} {f t : Int} {r : Value} (h : OBx w u k S P f t r) : OBx w u.drew k S P f t r := ⟨h.below.drew, h.c0, h.c1, h.c2, h.c3, h.c4, h.c5, h.lt⟩
theorem obx_new (w : World) (k : Int) (S P : ByteArray) (f t : Int) (ao : Option Addr) (n cap : Nat) : OBx w (w.alloc (.cells #[.int .i64 k, .string S, .string P, .int .i64 f, .int .i64 t, .slice ao n cap] 27)) k S P f t (.slice ao n cap) :=
  ⟨(Below.refl _ _).alloc (Nat.le_refl _) _, by simp [go_sem], by simp [go_sem], by simp [go_sem], by simp [go_sem], by simp [go_sem], by simp [go_sem], by simp⟩

/-- the first rune, if there is one -/
theorem first_or {w : World} {ao : Option Addr} {n cap : Nat} {xs : List Int} (hI : Ints .i32 w (.slice ao n cap) xs) : n = 0 ∨ (0 < n ∧ ∃ b off, ao = some ⟨b, off, none⟩ ∧ n ≤ cap ∧ ∃ x0 : Int, xs.getD 0 0 = x0 ∧ ∀ o : Obj, (w.alloc o).cell? ⟨b, off, none⟩ = some (.int .i32 x0)) := by
  obtain ⟨ao', cap', e, hc, hx⟩ := hI
  simp only [Value.slice.injEq] at e
  obtain ⟨rfl, hN, rfl⟩ := e
  rcases Nat.eq_zero_or_pos n with h | h
  · exact .inl h
  · obtain ⟨b, off, rfl, hlt, hcell⟩ := hx (by omega)
    refine .inr ⟨h, b, off, rfl, by omega, _, rfl, fun o => ?_⟩
    have h1 := hcell 0 (by omega)
    rw [Nat.add_zero] at h1
    exact ((below1 w o).cell (p := ⟨b, off, none⟩) hlt).trans h1

set_option maxRecDepth 100000 in
set_option maxHeartbeats 1600000 in
theorem w_Escape_out (s : ByteArray) (z : Int) (w : World) (h : z < 0 ∨ (s.size : Int) ≤ z) :
    Calls Tryz.prog 32 #[.string s, .int .i64 z] w fun e w' => e = .returned (.tuple #[.int .i32 0, .int .i64 0, .int .i64 2]) ∧ w' = w := by
  have HP := Hid.mk (fun u => w_isPlace_out s z u h)
  clear h
  go_enter Tryz.func32, Tryz.ntmps32
  go_wp2_with fail
  refine (HP.out _).mono ?_
  rintro e w1 ⟨rfl, hw⟩
  obtain rfl := hw.symm
  go_wp2_with fail
  refine bodyPost_ret (v := .tuple #[.int .i32 0, .int .i64 0, .int .i64 2]) (by simp [results, Tryz.results32, go_sem]) rfl ?_
  exact ⟨rfl, rfl⟩
set_option maxRecDepth 100000 in
set_option maxHeartbeats 1600000 in
theorem w_rEscape_out (s : ByteArray) (z : Int) (w : World) (h : z < 0 ∨ (s.size : Int) ≤ z) :
    Calls Tryz.prog 33 #[.string s, .int .i64 z] w fun e w' => e = .returned (.tuple #[.int .i64 0, .int .i64 0, .int .i64 2]) ∧ w' = w := by
  rcases h with h | h
  · go_enter Tryz.func33, Tryz.ntmps33
    go_wp2_with fail
    refine bodyPost_ret (v := .tuple #[.int .i64 0, .int .i64 0, .int .i64 2]) (by simp [results, Tryz.results33, go_sem]) rfl ?_
    exact ⟨rfl, rfl⟩
  · have h1 : ¬ z < 0 := by omega
    go_enter Tryz.func33, Tryz.ntmps33
    go_wp2_with fail
    refine bodyPost_ret (v := .tuple #[.int .i64 0, .int .i64 0, .int .i64 2]) (by simp [results, Tryz.results33, go_sem]) rfl ?_
    exact ⟨rfl, rfl⟩
def escZ (s : ByteArray) (z : Int) : Nat × Nat × Nat := if 0 ≤ z ∧ z < (s.size : Int) then escL s.data.toList z.toNat else (0, 0, 2)
theorem escL_lt (l : List UInt8) (k : Nat) : (escL l k).1 ≤ 1114111 := by
  rcases escL_code l k with h | h | h
  · have := (escL_ok h).2.2.1
    unfold isR at this; omega
  · omega
  · omega
theorem escZ_lt (s : ByteArray) (z : Int) : (escZ s z).1 ≤ 1114111 := by
  unfold escZ; split
  · exact escL_lt _ _
  · exact Nat.zero_le _
theorem w_Escape_z (s : ByteArray) (z : Int) (w : World) (hs : s.size ≤ 1048576) (hE : ErrIn w) :
    Calls Tryz.prog 32 #[.string s, .int .i64 z] w fun e w' => e = .returned (.tuple #[.int .i32 ((escZ s z).1 : Int), .int .i64 ((escZ s z).2.1 : Int), .int .i64 ((escZ s z).2.2 : Int)]) ∧ Below w.heap.size w w' := by
  by_cases h : 0 ≤ z ∧ z < (s.size : Int)
  · obtain ⟨k, rfl⟩ : ∃ k : Nat, z = (k : Int) := ⟨z.toNat, by omega⟩
    have e : escZ s (k : Int) = escL s.data.toList k := by unfold escZ; rw [if_pos h, Int.toNat_natCast]
    rw [e]; exact w_Escape_ex s k w (by omega) (by omega) hE
  · have e : escZ s z = (0, 0, 2) := by unfold escZ; rw [if_neg h]
    rw [e]; exact (w_Escape_out s z w (by omega)).mono fun e w' ⟨h1, h2⟩ => ⟨h1, by rw [h2]; exact Below.refl _ _⟩
theorem w_rEscape_z (s : ByteArray) (z : Int) (w : World) (hs : s.size ≤ 1048576) :
    Calls Tryz.prog 33 #[.string s, .int .i64 z] w fun e w' => e = .returned (.tuple #[.int .i64 ((escZ s z).1 : Int), .int .i64 ((escZ s z).2.1 : Int), .int .i64 ((escZ s z).2.2 : Int)]) ∧ w' = w := by
  by_cases h : 0 ≤ z ∧ z < (s.size : Int)
  · obtain ⟨k, rfl⟩ : ∃ k : Nat, z = (k : Int) := ⟨z.toNat, by omega⟩
    have e : escZ s (k : Int) = escL s.data.toList k := by unfold escZ; rw [if_pos h, Int.toNat_natCast]
    rw [e]; exact w_rEscape s k w (by omega) (by omega)
  · have e : escZ s z = (0, 0, 2) := by unfold escZ; rw [if_neg h]
    rw [e]; exact w_rEscape_out s z w (by omega)

/-- one call answers as it should -/
def AnsOk (k : Int) : Prop := ∀ (f t : Int) (S P : ByteArray) (ao : Option Addr) (n cap : Nat) (xs : List Int) (w : World), S.size ≤ 1048576 → P.size ≤ 1048576 → n ≤ 1048576 → xs.length = n → Ints .i32 w (.slice ao n cap) xs → (∀ i, i < xs.length → -2147483648 ≤ xs.getD i 0 ∧ xs.getD i 0 ≤ 2147483647) → ErrIn w →
    Calls Tryz.prog 5 #[.agg #[.int .i64 k, .string S, .string P, .int .i64 f, .int .i64 t, .slice ao n cap]] w fun e w' => e = .returned (.bool true) ∧ Below w.heap.size w w'
end Go.Proofs.YtbfjpmbninlbbabGreatDoor
