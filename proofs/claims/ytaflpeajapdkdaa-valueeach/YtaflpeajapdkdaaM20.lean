import Derived.Test.YtaflpeajapdkdaaM19
import Derived.Test.YtaflpeajapdkdaaM12
import Derived.Test.YtaflpeajapdkdaaM16
namespace Go.Proofs.Ytaflpeajapdkdaa
open Go.RowKit Go.Shelf
set_option linter.unusedVariables false
set_option linter.unusedSimpArgs false
attribute [local go_sem] Oper.semAt_some

/-- how many parts -/
def sumL : List Nat → Nat
  | [] => 0
  | x :: r => x + sumL r
theorem sumL_append (a b : List Nat) : sumL (a ++ b) = sumL a + sumL b := by
  induction a with
  | nil => simp [sumL]
  | cons x r ih => simp [sumL, ih, Nat.add_assoc]
theorem sumL_mem {x : Nat} : ∀ {l : List Nat}, x ∈ l → x ≤ sumL l
  | a :: r, h => by
    simp only [sumL]
    rcases List.mem_cons.1 h with rfl | h
    · omega
    · have := sumL_mem h; omega
def szN : Nat → VT → Nat
  | 0, _ => 0
  | h + 1, T => 1 + T.keys.length + sumL (T.items.map (szN h))
theorem szN_item {h : Nat} {T : VT} {i : Nat} (hi : i < T.items.length) : szN h T.items[i] + 1 ≤ szN (h + 1) T := by
  have := sumL_mem (List.mem_map.2 ⟨_, List.getElem_mem hi, rfl⟩ : szN h T.items[i] ∈ T.items.map (szN h))
  show _ ≤ 1 + T.keys.length + sumL _
  omega
/-- depth -/
def mxL : List Nat → Nat
  | [] => 0
  | x :: r => max x (mxL r)
theorem mxL_append (a b : List Nat) : mxL (a ++ b) = max (mxL a) (mxL b) := by
  induction a with
  | nil => simp [mxL]
  | cons x r ih => simp [mxL, ih, Nat.max_assoc]
def dpN : Nat → VT → Nat
  | 0, _ => 0
  | h + 1, T => if T.kind = 5 ∨ T.kind = 6 then 1 + mxL (T.items.map (dpN h)) else 0
theorem mxL_le {f g : VT → Nat} : ∀ (l : List VT), (∀ t ∈ l, f t ≤ g t) → mxL (l.map f) ≤ sumL (l.map g)
  | [], _ => Nat.le_refl _
  | t :: r, h => by
    have h1 := h t (List.mem_cons_self ..)
    have h2 := mxL_le r (fun x hx => h x (List.mem_cons_of_mem _ hx))
    simp only [List.map_cons, mxL, sumL]
    omega
theorem dpN_le : ∀ (h : Nat) (T : VT), dpN h T ≤ szN h T
  | 0, _ => Nat.le_refl _
  | h + 1, T => by
    have := mxL_le T.items (f := dpN h) (g := szN h) (fun t _ => dpN_le h t)
    show (if T.kind = 5 ∨ T.kind = 6 then 1 + mxL (T.items.map (dpN h)) else 0) ≤ 1 + T.keys.length + sumL _
    split <;> omega

set_option maxRecDepth 100000 in
set_option maxHeartbeats 800000 in
theorem w_inside (a b c d e : Value) (hone : OneC (fun j => match j with | 0 => a | 1 => b | 2 => c | 3 => d | 4 => e)) (w : World) :
    Calls Try.prog 15 #[.agg #[a, b, c, d, e]] w fun en w' => en = .returned (.func (.func 35) #[] #[.pointer (some ⟨w.heap.size, 0, none⟩)]) ∧ w' = w.alloc (.cells #[a, b, c, d, e] 25) := by
  obtain ⟨k, n, t, io, N, icap, ko, K, kcap, h0, h1, h2, h3, h4⟩ := hone
  have h0' : a = .int .i64 k := h0
  have h1' : b = .string n := h1
  have h2' : c = .string t := h2
  have h3' : d = .slice io N icap := h3
  have h4' : e = .slice ko K kcap := h4
  clear h0 h1 h2 h3 h4
  subst h0' h1' h2' h3' h4'
  go_enter Try.func15, Try.ntmps15
  go_wp2_with fail
  go_ret
  exact ⟨rfl, rfl⟩

theorem inside_stops (n : Nat) (hn : 1 ≤ n) (n₀ B N K : Nat) (io : Option Addr) (icap : Nat) (ko : Option Addr) (kcap : Nat) (c : Nat → Fin 5 → Value) (ky : Nat → ByteArray) (hN : N ≤ icap) (hK : K ≤ kcap) (hN2 : N ≤ 140737488355328) (hone : ∀ i, i < N → OneC (c i)) (w : World) (hn0 : n₀ ≤ w.heap.size) (hS : InSt w n₀ B N K io icap ko kcap c ky) :
    SeqStopsK Fence.wide n Try.prog 35 #[.pointer (some ⟨B, 0, none⟩)] (fun x : { i : Nat // i < N } => encI K ky c x.1) (KpV n₀ B) (fun xs => xs.map (·.1) = List.range N) (fun _ => True) N w := by
  intro l J Jx W hW hJ hJx hY h0
  exact inside1_in n hn l n₀ B N K io icap ko kcap c ky hN hK hN2 hone J Jx W (Nat.le_trans hn0 hW.size) (hS.keep (KpV.of_below hn0 hW)) hJ hJx hY h0

/-- the item's own box -/
structure IBox (W : World) (Bx : Nat) (c : Fin 5 → Value) : Prop where
  row : W.heap[Bx]? = some (.cells #[c 0, c 1, c 2, c 3, c 4] 25 (0, 0))
theorem IBox.cell {W : World} {Bx : Nat} {c : Fin 5 → Value} (h : IBox W Bx c) : W.cell? ⟨Bx, 0, none⟩ = some (c 0) ∧ W.cell? ⟨Bx, 1, none⟩ = some (c 1) ∧ W.cell? ⟨Bx, 2, none⟩ = some (c 2) ∧ W.cell? ⟨Bx, 3, none⟩ = some (c 3) ∧ W.cell? ⟨Bx, 4, none⟩ = some (c 4) :=
  ⟨cell_of_row _ _ 0 _ _ _ h.row, cell_of_row _ _ 1 _ _ _ h.row, cell_of_row _ _ 2 _ _ _ h.row, cell_of_row _ _ 3 _ _ _ h.row, cell_of_row _ _ 4 _ _ _ h.row⟩
theorem ibox_own (m : Nat) (Bx : Nat) (c : Fin 5 → Value) : OwnFrom m (fun (_ : Unit) W => IBox W Bx c) := by
  intro _ A B row h hg hr
  refine ⟨?_⟩
  rw [hg.block Bx (Array.getElem?_eq_some_iff.1 h.row).1 ?_]
  · exact h.row
  · intro e
    obtain ⟨_, o, ho, hc⟩ := hr Bx e.symm
    rw [h.row] at ho
    cases ho
    simp [Obj.isCells] at hc
end Go.Proofs.Ytaflpeajapdkdaa
namespace Go.Proofs.Ytaflpeajapdkdaa
open Go.RowKit
set_option linter.unusedVariables false
set_option linter.unusedSimpArgs false

theorem sum_take_up {α : Type} (f : α → Nat) {ts : List α} {k : Nat} (hk : k < ts.length) : sumL ((ts.take (k + 1)).map f) = sumL ((ts.take k).map f) + f ts[k] := by
  rw [List.take_add_one, List.getElem?_eq_getElem hk, List.map_append, sumL_append]
  simp [sumL]

/-- what Parts answers, where it isn't cut short -/
def PtE (h : Nat) (T : VT) (most : Int) (w w' : World) (e : Ending) : Prop := ∃ p : Int, e = .returned (.int .i64 p) ∧ 0 ≤ p ∧ p ≤ most + 140737488355329 ∧ (p ≤ most → p = (szN h T : Int)) ∧ Below w.heap.size w w'

set_option maxRecDepth 100000 in
set_option maxHeartbeats 3200000 in
theorem w_PartsE : ∀ (h : Nat) (T : VT) (v : Value) (w : World) (most : Int), InH w h T v → 0 ≤ most → most ≤ 10000 → Calls Try.prog 16 #[v, .int .i64 most] w fun e w' => PtE h T most w w' e := by
  intro h
  induction h with
  | zero => intro T v w most hI; exact hI.elim
  | succ h ih =>
    intro T v w most hI h0 h1
    obtain ⟨io, icap, ko, kcap, rfl, a1, a2, a3, a4, a5, a6, a7, hk, hi⟩ := hI.open
    have HX := Hid.mk (vbx_new w (.int .i64 T.kind) (.string T.num) (.string T.text) (.slice io T.items.length icap) (.slice ko T.keys.length kcap))
    have HI := Hid.mk (hi.keep HX.out.below)
    have HIh := Hid.mk ih
    have HSZ : Hid (szN (h + 1) T = 1 + T.keys.length + sumL (T.items.map (szN h))) := rfl
    unfold PtE
    generalize szN (h + 1) T = SZ at HSZ ⊢
    generalize T.kind = kd at *
    generalize T.num = nm at *
    generalize T.text = tx at *
    obtain ⟨ts, hts⟩ : ∃ ts, T.items = ts := ⟨_, rfl⟩
    rw [hts] at HI HX a3 a5 HSZ ⊢
    obtain ⟨N, hN⟩ : ∃ N, ts.length = N := ⟨_, rfl⟩
    have HNN := Hid.mk hN
    rw [hN] at HX HI a3 a5 ⊢
    obtain ⟨K, hK⟩ : ∃ K, T.keys.length = K := ⟨_, rfl⟩
    rw [hK] at HX HI a4 a6 HSZ ⊢
    clear hi hk hI ih a7 hts hN hK
    obtain ⟨W0, hW0⟩ : ∃ W0, W0 = w.alloc (.cells #[.int .i64 kd, .string nm, .string tx, .slice io N icap, .slice ko K kcap] 25) := ⟨_, rfl⟩
    go_enter Try.func16, Try.ntmps16
    go_wp2_with fail
    rw [← hW0] at HX HI ⊢
    clear hW0
    go_loopw [5, 6] (fun nn i wr => ∃ (n : Int) (k : Nat), 0 ≤ n ∧ n ≤ most + 140737488355329 ∧ k ≤ N ∧ nn = .int .i64 n ∧ i = .int .i64 (k : Int) ∧ Hid (Below W0.heap.size W0 wr) ∧ Hid (n ≤ most → n = 1 + (K : Int) + ((sumL ((ts.take k).map (szN h)) : Nat) : Int))) (fun _ i _ => N - (intOf i).toNat)
    case atStart => exact ⟨1 + (K : Int), 0, by omega, by omega, Nat.zero_le _, rfl, rfl, Below.refl _ _, fun _ => by simp [sumL]⟩
    case round =>
      obtain ⟨n, k, hn0, hn1, hk, rfl, rfl, HB, HS⟩ := hrel
      have HXw := Hid.mk (HX.out.keep HB.out)
      have g3 := HXw.out.c3
      have g4 := HXw.out.c4
      by_cases hlt : k < N
      · have hl1 : (k : Int) < (N : Int) := by omega
        by_cases hm : n ≤ most
        · obtain ⟨b, off, hio, hbl, hrow⟩ := (HI.out.keep HB.out).row (by rw [HNN.out]; omega)
          subst hio
          have hkt : k < ts.length := by rw [HNN.out]; exact hlt
          obtain ⟨v0, v1, v2, v3, v4, ⟨c0, c1, c2, c3, c4⟩, ht⟩ := hrow k hkt
          have HC := Hid.mk (HIh.out _ _ wr (most - n) ht (by omega) (by omega))
          unfold PtE at HC
          have HU := Hid.mk (sum_take_up (szN h) hkt)
          clear ht hrow hbl
          go_wp2_with fail
          refine HC.out.mono ?_
          rintro e w2 ⟨p, rfl, hp0, hp1, hp2, hb2⟩
          have HB2 := Hid.mk (below_more HB.out hb2)
          have HS2 : Hid (n + p ≤ most → n + p = 1 + (K : Int) + ((sumL ((ts.take (k + 1)).map (szN h)) : Nat) : Int)) := by
            intro hle
            have e1 := hp2 (by omega)
            have e2 := HS.out hm
            have e3 := HU.out
            omega
          clear hb2 c0 c1 c2 c3 c4 HC g3 g4 hp2 HU hkt
          go_wp2_with fail
          go_roundw
          case rel => exact ⟨n + p, k + 1, by omega, by omega, hlt, by go_num, by go_num, HB2, HS2⟩
          case measure => simp [intOf]; omega
        · have hm1 : ¬ n ≤ most := hm
          go_wp2_with fail
          go_ret
          exact ⟨n, rfl, hn0, hn1, fun hh => by omega, HXw.out.below⟩
      · have hl1 : ¬ (k : Int) < (N : Int) := by omega
        have HF : Hid (n ≤ most → n = (SZ : Int)) := by
          intro hh
          have e1 := HS.out hh
          have e2 := HNN.out
          have hkN : k = ts.length := by omega
          rw [hkN, List.take_length] at e1
          have e3 := HSZ.out
          omega
        go_wp2_with fail
        go_ret
        exact ⟨n, rfl, hn0, hn1, HF.out, HXw.out.below⟩

set_option maxRecDepth 100000 in
set_option maxHeartbeats 800000 in
theorem w_smallE (h : Nat) (T : VT) (v : Value) (w : World) (hI : InH w h T v) : Calls Try.prog 5 #[v] w fun e w' => ∃ b : Bool, e = .returned (.bool b) ∧ (b = true → szN h T ≤ 10000) ∧ Below w.heap.size w w' := by
  cases h with
  | zero => exact hI.elim
  | succ h =>
    have hP := fun u hu => w_PartsE (h + 1) T v u 10000 (hI.keep hu) (by omega) (by omega)
    obtain ⟨io, icap, ko, kcap, rfl, a1, a2, a3, a4, a5, a6, a7, hk, hi⟩ := hI.open
    have HX := Hid.mk (vbx_new w (.int .i64 T.kind) (.string T.num) (.string T.text) (.slice io T.items.length icap) (.slice ko T.keys.length kcap))
    have HC := Hid.mk (hP _ HX.out.below)
    unfold PtE at HC
    clear hP hi hk hI a7
    go_enter Try.func5, Try.ntmps5
    go_wp2_with fail
    refine HC.out.mono ?_
    rintro e w2 ⟨p, rfl, hp0, hp1, hp2, hb2⟩
    have HB2 := Hid.mk (HX.out.keep hb2).below
    have HP2 := Hid.mk hp2
    clear hb2 HC hp2
    go_wp2_with fail
    go_ret
    refine ⟨_, rfl, fun hh => ?_, HB2.out⟩
    have hh' : p ≤ 10000 := by simpa using hh
    have := HP2.out hh'
    omega
end Go.Proofs.Ytaflpeajapdkdaa
