import Derived.Test.YtapjfocjeligiaaGreatDoorM33
import Derived.Lib.ItoaNum
import Derived.Test.YtapjfocjeligiaaGreatDoorM5
import Derived.Deep.AppendLies
import Derived.Test.YtapjfocjeligiaaGreatDoorM7
import Derived.Test.YtapjfocjeligiaaGreatDoorM54
import Derived.Test.YtapjfocjeligiaaGreatDoorM40
namespace Go.Proofs.YtapjfocjeligiaaGreatDoor
open Go.RowKit Go.Shelf Go.Sort
set_option linter.unusedVariables false
set_option linter.unusedSimpArgs false

/-- a way leads to something in a value, but for the last step of what is lacking (reason 6) -/
def Lead (r : Int) : List VT → VT → Prop
  | [], _ => r ≠ 6
  | s :: p, V => (r = 6 ∧ p = [] ∧ V.kind = 6 ∧ ∃ k, s = stT k ∧ hasK V.keys k = false) ∨ (V.kind = 5 ∧ ∃ (i : Nat) (x : VT), s = stN i ∧ V.items[i]? = some x ∧ Lead r p x) ∨ (V.kind = 6 ∧ ∃ (i : Nat) (k : ByteArray) (x : VT), s = stT k ∧ V.keys[i]? = some k ∧ V.items[i]? = some x ∧ Lead r p x)
/-- what an answer of against holds to -/
def LeadQ (V : VT) (q : List VT × Int) : Prop := Lead q.2 q.1 V ∧ 1 ≤ q.2 ∧ q.2 ≤ 7
theorem agIt_lead {f : VT → TT → Er} {A : TT} (h : ∀ x q, f x A = some q → LeadQ x q) : ∀ (its : List VT) (i : Nat) (q : List VT × Int), agIt f A i its = some q → ∃ (j : Nat) (x : VT) (p : List VT), q.1 = stN (i + j) :: p ∧ its[j]? = some x ∧ Lead q.2 p x ∧ 1 ≤ q.2 ∧ q.2 ≤ 7
  | [], i, q, e => by simp [agIt] at e
  | x :: xs, i, q, e => by
    unfold agIt at e
    cases hx : f x A with
    | none =>
      rw [hx] at e
      obtain ⟨j, y, p, h1, h2, h3⟩ := agIt_lead h xs (i + 1) q e
      exact ⟨j + 1, y, p, by rw [h1, show i + 1 + j = i + (j + 1) by omega], by simpa using h2, h3⟩
    | some r =>
      rw [hx] at e
      have h1 := h x r hx
      simp only [Er.under, Option.some.injEq] at e
      subst e
      exact ⟨0, x, r.1, rfl, rfl, h1⟩
theorem agLk_lead {ks : List ByteArray} : ∀ (l : List (ByteArray × Bool)) (q : List VT × Int), agLk ks l = some q → ∃ k, q = ([stT k], 6) ∧ hasK ks k = false
  | [], q, e => by simp [agLk] at e
  | x :: xs, q, e => by
    unfold agLk at e
    split at e
    · rename_i hx
      simp only [Option.some.injEq] at e
      exact ⟨x.1, e.symm, by simp at hx; exact hx.2⟩
    · exact agLk_lead xs q e
theorem agFl_lead {f : VT → TT → Er} {o : OB} (h : ∀ x A q, f x A = some q → LeadQ x q) : ∀ (l : List (ByteArray × VT)) (q : List VT × Int), agFl f o l = some q → ∃ (j : Nat) (x : ByteArray × VT) (p : List VT), q.1 = stT x.1 :: p ∧ l[j]? = some x ∧ Lead q.2 p x.2 ∧ 1 ≤ q.2 ∧ q.2 ≤ 7
  | [], q, e => by simp [agFl] at e
  | x :: xs, q, e => by
    unfold agFl at e
    cases hx : f x.2 (fldO o x.1).1 with
    | none =>
      rw [hx] at e
      obtain ⟨j, y, p, h1, h2, h3⟩ := agFl_lead h xs q e
      exact ⟨j + 1, y, p, h1, by simpa using h2, h3⟩
    | some r =>
      rw [hx] at e
      have h1 := h _ _ r hx
      simp only [Er.under, Option.some.injEq] at e
      subst e
      exact ⟨0, x, r.1, rfl, rfl, h1⟩
theorem agOb_lead {f : VT → TT → Er} {V : VT} {o : OB} (hk : V.kind = 6) (h : ∀ x A q, f x A = some q → LeadQ x q) (q : List VT × Int) (e : agOb f V o = some q) : LeadQ V q := by
  unfold agOb at e
  split at e
  · rename_i r hr
    simp only [Option.some.injEq] at e
    subst e
    obtain ⟨k, rfl, h2⟩ := agLk_lead _ _ hr
    exact ⟨.inl ⟨rfl, rfl, hk, k, rfl, h2⟩, (by decide : (1 : Int) ≤ 6), (by decide : (6 : Int) ≤ 7)⟩
  · obtain ⟨j, x, p, h1, h2, h3, h4⟩ := agFl_lead h _ _ e
    have h5 := List.getElem?_zip_eq_some.1 h2
    refine ⟨?_, h4⟩
    rw [h1]
    exact .inr (.inr ⟨hk, j, x.1, x.2, rfl, h5.1, h5.2, h3⟩)
theorem ag_lead : ∀ (h : Nat) (V : VT) (T : TT) (q : List VT × Int), agN h V T = some q → LeadQ V q
  | 0, V, T, q, e => by simp [agN] at e
  | h + 1, V, T, q, e => by
    have ih := ag_lead h
    have hend : ∀ (r : Int), r ≠ 6 → 1 ≤ r → r ≤ 7 → some (([] : List VT), r) = some q → LeadQ V q := fun r h1 h2 h3 he => by
      simp only [Option.some.injEq] at he
      subst he
      exact ⟨h1, h2, h3⟩
    unfold agN agK at e
    split at e
    · cases e
    · split at e
      · exact hend 1 (by decide) (by decide) (by decide) e
      · split at e
        · unfold agNm agSp at e
          split at e
          · cases e
          · split at e
            · cases e
            · exact hend 2 (by decide) (by decide) (by decide) e
        · split at e
          · unfold agTx at e
            split at e
            · cases e
            · exact hend 3 (by decide) (by decide) (by decide) e
          · split at e
            · rename_i hk
              unfold agArs at e
              split at e
              · cases e
              · unfold agAr at e
                split at e
                · exact hend 4 (by decide) (by decide) (by decide) e
                · split at e
                  · exact hend 5 (by decide) (by decide) (by decide) e
                  · obtain ⟨j, x, p, h1, h2, h3, h4⟩ := agIt_lead (fun x q hq => ih x _ q hq) _ _ _ e
                    refine ⟨?_, h4⟩
                    rw [h1, Nat.zero_add]
                    exact .inr (.inl ⟨hk, j, x, rfl, h2, h3⟩)
            · split at e
              · rename_i hk
                unfold agObs at e
                split at e
                · exact agOb_lead hk (fun x A q hq => ih x A q hq) _ e
                · split at e
                  · cases e
                  · exact hend 7 (by decide) (by decide) (by decide) e
              · cases e
/-- digits' value -/
def digV (l : List UInt8) : Nat := l.foldl (fun n c => 10 * n + (c.toNat - 48)) 0
theorem digV_snoc (l : List UInt8) (c : UInt8) : digV (l ++ [c]) = 10 * digV l + (c.toNat - 48) := by unfold digV; rw [List.foldl_append]; rfl
theorem dec_step {u : Nat} (h : ¬ u < 10) : Lib.decDigits u = Lib.decDigits (u / 10) ++ [UInt8.ofNat (48 + u % 10)] := by rw [Lib.decDigits, dif_neg h]
theorem dig_nat {d : Nat} (h : d < 10) : (UInt8.ofNat (48 + d)).toNat = 48 + d := by rw [UInt8.toNat_ofNat_of_lt' (by show 48 + d < 256; omega)]
theorem dec_all : ∀ (n u : Nat), u < n → (∀ c ∈ Lib.decDigits u, 48 ≤ c.toNat ∧ c.toNat ≤ 57) ∧ digV (Lib.decDigits u) = u ∧ 0 < (Lib.decDigits u).length ∧ (∀ k, digV ((Lib.decDigits u).take k) ≤ u) ∧ (0 < u → ∃ c l, Lib.decDigits u = c :: l ∧ c.toNat ≠ 48)
  | 0, u, h => absurd h (Nat.not_lt_zero _)
  | n + 1, u, h => by
    by_cases hu : u < 10
    · rw [Lib.decDigits_one hu]
      have e := dig_nat hu
      refine ⟨fun c hc => ?_, ?_, Nat.one_pos, fun k => ?_, fun h0 => ⟨_, [], rfl, by omega⟩⟩
      · rw [List.mem_singleton] at hc; subst hc; omega
      · show 10 * 0 + (_ - 48) = u; omega
      · cases k with
        | zero => exact Nat.zero_le _
        | succ k =>
          rw [List.take_succ_cons, List.take_nil]
          show 10 * 0 + (_ - 48) ≤ u; omega
    · rw [dec_step hu]
      obtain ⟨h1, h2, h3, h4, h5⟩ := dec_all n (u / 10) (by omega)
      have e := dig_nat (show u % 10 < 10 by omega)
      refine ⟨fun c hc => ?_, ?_, by simp, fun k => ?_, fun _ => ?_⟩
      · rw [List.mem_append, List.mem_singleton] at hc
        rcases hc with hc | rfl
        · exact h1 c hc
        · omega
      · rw [digV_snoc, h2]; omega
      · by_cases hk : k ≤ (Lib.decDigits (u / 10)).length
        · rw [List.take_append_of_le_length hk]
          have := h4 k
          omega
        · rw [List.take_of_length_le (by simp; omega), digV_snoc, h2]; omega
      · obtain ⟨c, l, hc, hn⟩ := h5 (by omega)
        exact ⟨c, l ++ _, by rw [hc]; rfl, hn⟩
theorem itoa_dec (i : Nat) : Lib.itoa (i : Int) = Lib.decDigits i := by
  unfold Lib.itoa
  rw [if_neg (by omega), Int.toNat_natCast]
end Go.Proofs.YtapjfocjeligiaaGreatDoor
namespace Go.Proofs.YtapjfocjeligiaaGreatDoor
open Go.RowKit
set_option linter.unusedVariables false
set_option linter.unusedSimpArgs false

theorem Tryz.infoB : (Tryz.prog.info? 5).map (fun i => (i.zero, i.size, i.bytes)) = some (some (.int .u8 0), 1, 1) := by kernel_rfl
theorem own_base {w : World} {base : Nat} {e : TypeId} {size : Nat} {v : Value} {n : Nat} {xs : List Value} (h : w.ownsRow base e size v n xs) : ∀ k, v.ownBlock = some k → base ≤ k := by
  intro k hk
  obtain ⟨_, ⟨rfl, _⟩ | ⟨g, cap, cur, rfl, hg, _⟩⟩ := h
  · cases hk
  · simp [Value.ownBlock] at hk; omega
theorem own_shape {w : World} {base : Nat} {e : TypeId} {size : Nat} {v : Value} {n : Nat} {xs : List Value} (h : w.ownsRow base e size v n xs) : ∃ ao cap, v = .slice ao n cap := by
  rcases h.2 with ⟨e, e2⟩ | ⟨g, cap, cur, e, _⟩
  · exact ⟨none, 0, by rw [e, e2]⟩
  · exact ⟨_, _, e⟩
theorem own_some {w : World} {base n : Nat} {v : Value} {xs : List Value} (h : w.ownsRow base 5 1 v n xs) (hn : 0 < n) : ∃ g cap, v = .slice (some ⟨g, 0, none⟩) n cap := by
  rcases h.2 with ⟨e, e2⟩ | ⟨g, cap, cur, e, _⟩
  · omega
  · exact ⟨g, cap, e⟩
theorem below_app {B : Nat} {w wr w1 : World} {e : TypeId} {size : Nat} {v : Value} {n : Nat} {xs : List Value} {o : Obj} (hown : wr.ownsRow B e size v n xs) (hBw : B ≤ wr.heap.size) (hb : Below B w wr) (hg : (wr.alloc o).grownBy w1 v.ownBlock) : Below B w w1 :=
  (hb.alloc hBw o).grown hg (by simp; omega) (own_base hown)
theorem bytes_conv {wr : World} {base n cap g : Nat} {l : List UInt8} (h1 : l.length = n) (h3 : wr.ownsRow base 5 1 (.slice (some ⟨g, 0, none⟩) n cap) n (Lib.byteCells l)) : (convert 159 9 (.slice (some ⟨g, 0, none⟩) n cap)).run Tryz.prog wr = .ok (.string ⟨l.toArray⟩) wr := by
  subst h1
  refine run_convert_bytes_back (P := Tryz.prog) wr 159 9 5 ⟨g, 0, none⟩ cap l Tryz.underlying159 Tryz.underlying5 Tryz.underlying9 (fun j hj => ?_)
  have := h3.cellAt j (by omega)
  have e : (⟨g, 0, none⟩ : Addr).add j = ⟨g, j, none⟩ := by
    unfold Addr.add; by_cases h0 : j = 0 <;> simp [h0]
  rw [e, this]
  simp [Lib.byteCells, hj]

/-- a new row of bytes, all of it room -/
def brow (m : Nat) : Obj := .cells (madeCells #[.int .u8 0] m) 5 (0, 0)
theorem run_make_bytes (m : Nat) (z : Int) (hz : z = (m : Int)) (hn : m ≤ 140737488355328) (u : World) : (Instr.makeSlice 159 (.int .i64 0) (.int .i64 z)).run Tryz.prog u = .ok (.slice (some ⟨u.heap.size, 0, none⟩) 0 m) (u.alloc (brow m)) := by
  subst hz
  obtain ⟨i0, hi, hz0, hz1, hz2⟩ := info_parts Tryz.infoB
  have h := run_make (P := Tryz.prog) u 159 5 i0 (.int .u8 0) Tryz.underlying159 hi hz0 .i64 .i64 0 (m : Int) (by omega) (by omega) (by rw [hz2]; omega) (by omega)
  have e : ((m : Int)).toNat = m := by omega
  rw [e] at h
  simpa [hz1, Value.cells, brow] using h
theorem own_bytes (w : World) (m : Nat) (hm : m ≤ 140737488355328) : (w.alloc (brow m)).ownsRow w.heap.size 5 1 (.slice (some ⟨w.heap.size, 0, none⟩) 0 m) 0 (Lib.byteCells []) :=
  ⟨rfl, Or.inr ⟨w.heap.size, m, madeCells #[.int .u8 0] m, rfl, Nat.le_refl _, heap_alloc_new w _, Nat.zero_le _, by unfold maxLen; omega, by rw [size_madeCells, Nat.mul_one], rfl⟩⟩

/-- the slice value v reads, in w, as the numbers xs of kind k -/
def Ints (k : IntKind) (w : World) (v : Value) (xs : List Int) : Prop :=
  ∃ (ao : Option Addr) (cap : Nat), v = .slice ao xs.length cap ∧ xs.length ≤ cap ∧ (0 < xs.length → ∃ b off, ao = some ⟨b, off, none⟩ ∧ b < w.heap.size ∧ ∀ i, i < xs.length → w.cell? ⟨b, off + i, none⟩ = some (.int k (xs.getD i 0)))
theorem Ints.keep {k : IntKind} {w w' : World} {v : Value} {xs : List Int} (h : Ints k w v xs) (hb : Below w.heap.size w w') : Ints k w' v xs := by
  obtain ⟨ao, cap, hv, hc, hr⟩ := h
  refine ⟨ao, cap, hv, hc, fun hn => ?_⟩
  obtain ⟨b, off, ha, hlt, hcell⟩ := hr hn
  refine ⟨b, off, ha, Nat.lt_of_lt_of_le hlt hb.size, fun i hi => ?_⟩
  rw [hb.cell (p := ⟨b, off + i, none⟩) hlt]
  exact hcell i hi
def ivals (k : IntKind) (xs : List Int) : List Value := xs.map fun (x : Int) => Value.int k x
theorem ivals_get (k : IntKind) (xs : List Int) (i : Nat) (h : i < xs.length) : (ivals k xs)[i]? = some (.int k (xs.getD i 0)) := by
  simp [ivals, List.getElem?_eq_getElem h]
theorem own_ints {w : World} {base : Nat} {e : TypeId} {k : IntKind} {v : Value} {n : Nat} {xs : List Int} (h : w.ownsRow base e 1 v n (ivals k xs)) : Ints k w v xs := by
  obtain ⟨hl, h⟩ := h
  have hn : xs.length = n := by
    have : (ivals k xs).length = xs.length := by simp [ivals]
    omega
  rcases h with ⟨rfl, rfl⟩ | ⟨g, cap, cur, rfl, hg, hh, hcap, hm, hcs, ht⟩
  · have : xs = [] := List.eq_nil_of_length_eq_zero hn
    subst this
    exact ⟨none, 0, rfl, Nat.le_refl _, fun h => by cases h⟩
  · refine ⟨some ⟨g, 0, none⟩, cap, by rw [hn], by omega, fun _ => ⟨g, 0, rfl, (Array.getElem?_eq_some_iff.1 hh).1, fun i hi => ?_⟩⟩
    rw [cell_of_row w g (0 + i) cur e (0, 0) hh, Nat.zero_add]
    have h1 := ivals_get k xs i hi
    rw [← ht, List.getElem?_take, if_pos (by omega)] at h1
    simpa using h1
theorem take_isnoc (xs : List Int) (k : Nat) (h : k < xs.length) : xs.take (k + 1) = xs.take k ++ [xs.getD k 0] := by
  rw [List.take_succ_eq_append_getElem h, List.getD_eq_getElem?_getD, List.getElem?_eq_getElem h]; rfl
theorem own_empty (w : World) (e : TypeId) : (w.alloc (.cells #[] e)).ownsRow w.heap.size e 1 (.slice (some ⟨w.heap.size, 0, none⟩) 0 0) 0 [] :=
  ⟨rfl, Or.inr ⟨w.heap.size, 0, #[], rfl, Nat.le_refl _, heap_alloc_new w _, Nat.le_refl _, by decide, rfl, rfl⟩⟩
theorem Tryz.infoI : (Tryz.prog.info? 3).map (fun i => (i.zero, i.size, i.bytes)) = some (some (.int .i64 0), 1, 8) := by kernel_rfl

/-- while a list is copied -/
structure CopySt (k : IntKind) (e : TypeId) (w wr : World) (v : Value) (xs : List Int) (i : Nat) : Prop where
  own : wr.ownsRow w.heap.size e 1 v i (ivals k (xs.take i))
  below : Below w.heap.size w wr
theorem CopySt.next {k : IntKind} {e : TypeId} {w wr w1 : World} {v v1 : Value} {xs : List Int} {i : Nat} {o : Obj} (h : CopySt k e w wr v xs i) (hi : i < xs.length) (hown : w1.ownsRow w.heap.size e 1 v1 (i + 1) (ivals k (xs.take i) ++ [.int k (xs.getD i 0)])) (hg : (wr.alloc o).grownBy w1 v.ownBlock) : CopySt k e w w1 v1 xs (i + 1) := by
  refine ⟨?_, below_app h.own h.below.size h.below hg⟩
  rw [take_isnoc xs i hi]
  have : ivals k (xs.take i ++ [xs.getD i 0]) = ivals k (xs.take i) ++ [.int k (xs.getD i 0)] := by simp [ivals]
  rw [this]
  exact hown

/-- a call that answers a new list -/
def ListR (k : IntKind) (w w' : World) (e : Ending) (xs : List Int) : Prop := ∃ so sc, e = .returned (.slice so xs.length sc) ∧ Hid (Ints k w' (.slice so xs.length sc) xs) ∧ Below w.heap.size w w'
end Go.Proofs.YtapjfocjeligiaaGreatDoor
namespace Go.Proofs.YtapjfocjeligiaaGreatDoor
open Go.RowKit
set_option linter.unusedVariables false
set_option linter.unusedSimpArgs false

def toI (zs : List Nat) : List Int := zs.map fun (n : Nat) => (n : Int)
theorem toI_len (zs : List Nat) : (toI zs).length = zs.length := List.length_map ..
theorem toI_get (zs : List Nat) (i : Nat) : (toI zs).getD i 0 = ((zs.getD i 0 : Nat) : Int) := by
  unfold toI
  by_cases h : i < zs.length
  · simp [h]
  · simp [List.getElem?_eq_none (Nat.le_of_not_lt h)]
theorem toI_range (zs : List Nat) (h : ∀ z ∈ zs, isR z) (i : Nat) : -2147483648 ≤ (toI zs).getD i 0 ∧ (toI zs).getD i 0 ≤ 2147483647 := by
  rw [toI_get]
  by_cases hi : i < zs.length
  · have hz : isR (zs.getD i 0) := by
      apply h
      rw [List.getD_eq_getElem?_getD, List.getElem?_eq_getElem hi]
      exact List.getElem_mem hi
    unfold isR at hz
    omega
  · rw [List.getD_eq_getElem?_getD, List.getElem?_eq_none (Nat.le_of_not_lt hi)]
    simp
theorem txt_toI (zs : List Nat) (h : ∀ z ∈ zs, isR z) : ((toI zs).flatMap fun z => enc (rn z)) = txt zs := by
  induction zs with
  | nil => rfl
  | cons z r ih =>
    have e1 : toI (z :: r) = (z : Int) :: toI r := rfl
    have e2 : txt (z :: r) = enc z ++ txt r := rfl
    rw [e1, e2, List.flatMap_cons, rn_nat (h z (List.mem_cons_self ..)), ih fun y hy => h y (List.mem_cons_of_mem _ hy)]

/-- a list at the head of its block -/
def Head (k : IntKind) (w : World) (g n cap : Nat) (xs : List Int) : Prop := xs.length = n ∧ n ≤ cap ∧ g < w.heap.size ∧ ∀ i, i < n → w.cell? ⟨g, i, none⟩ = some (.int k (xs.getD i 0))
theorem Head.ints {k : IntKind} {w : World} {g n cap : Nat} {xs : List Int} (h : Head k w g n cap xs) : Ints k w (.slice (some ⟨g, 0, none⟩) n cap) xs := by
  obtain ⟨h1, h2, h3, h4⟩ := h
  subst h1
  exact ⟨_, cap, rfl, h2, fun _ => ⟨g, 0, rfl, h3, fun i hi => by rw [Nat.zero_add]; exact h4 i hi⟩⟩
theorem Head.keep {k : IntKind} {w w' : World} {g n cap : Nat} {xs : List Int} (h : Head k w g n cap xs) (hb : Below w.heap.size w w') : Head k w' g n cap xs :=
  ⟨h.1, h.2.1, Nat.lt_of_lt_of_le h.2.2.1 hb.size, fun i hi => (hb.cell (p := ⟨g, i, none⟩) h.2.2.1).trans (h.2.2.2 i hi)⟩

theorem beq_lists (s t : ByteArray) : (s.toList == t.toList) = (s.data.toList == t.data.toList) := by
  rw [Lib.toList_data, Lib.toList_data]
theorem txt_len (zs : List Nat) : (txt zs).length ≤ 4 * zs.length := by
  induction zs with
  | nil => exact Nat.le_refl _
  | cons z r ih =>
    have e2 : txt (z :: r) = enc z ++ txt r := rfl
    have := (enc_len z).2
    rw [e2, List.length_append, List.length_cons]; omega
end Go.Proofs.YtapjfocjeligiaaGreatDoor
namespace Go.Proofs.YtapjfocjeligiaaGreatDoor
open Go.RowKit
set_option linter.unusedVariables false
set_option linter.unusedSimpArgs false

set_option maxRecDepth 100000 in
set_option maxHeartbeats 1600000 in
theorem w_IsRune (x : Int) (w : World) :
    Calls Tryz.prog 132 #[.int .i64 x] w fun e w' => e = .returned (.bool (Lib.validRune x)) ∧ w' = w := by
  have HV : Hid (Lib.validRune x = decide ((0 ≤ x ∧ x < 0xD800) ∨ (0xDFFF < x ∧ x ≤ 0x10FFFF))) := rfl
  rcases (show x < 0 ∨ (0 ≤ x ∧ ¬ x ≤ 1114111) ∨ (0 ≤ x ∧ x ≤ 1114111 ∧ x < 55296) ∨ (0 ≤ x ∧ x ≤ 1114111 ∧ ¬ x < 55296 ∧ 57343 < x) ∨ (0 ≤ x ∧ x ≤ 1114111 ∧ ¬ x < 55296 ∧ ¬ 57343 < x) by omega) with h | ⟨h, h1⟩ | ⟨h, h1, h2⟩ | ⟨h, h1, h2, h3⟩ | ⟨h, h1, h2, h3⟩
  · have HF : Hid (Lib.validRune x = false) := by show _ = _; rw [HV.out]; exact decide_eq_false (by omega)
    have h' : ¬ 0 ≤ x := by omega
    go_enter Tryz.func132, Tryz.ntmps132
    go_wp2_with fail
    go_ret
    exact ⟨by rw [HF.out]; rfl, rfl⟩
  · have HF : Hid (Lib.validRune x = false) := by show _ = _; rw [HV.out]; exact decide_eq_false (by omega)
    go_enter Tryz.func132, Tryz.ntmps132
    go_wp2_with fail
    go_ret
    exact ⟨by rw [HF.out]; rfl, rfl⟩
  · have HF : Hid (Lib.validRune x = true) := by show _ = _; rw [HV.out]; exact decide_eq_true (by omega)
    go_enter Tryz.func132, Tryz.ntmps132
    go_wp2_with fail
    go_ret
    exact ⟨by rw [HF.out]; rfl, rfl⟩
  · have HF : Hid (Lib.validRune x = true) := by show _ = _; rw [HV.out]; exact decide_eq_true (by omega)
    go_enter Tryz.func132, Tryz.ntmps132
    go_wp2_with fail
    go_ret
    exact ⟨by rw [HF.out]; rfl, rfl⟩
  · have HF : Hid (Lib.validRune x = false) := by show _ = _; rw [HV.out]; exact decide_eq_false (by omega)
    go_enter Tryz.func132, Tryz.ntmps132
    go_wp2_with fail
    go_ret
    exact ⟨by rw [HF.out]; rfl, rfl⟩

theorem txt_rn (xs : List Int) : (xs.flatMap fun z => enc (rn z)) = txt (xs.map rn) := by
  unfold txt; rw [List.flatMap_map]
theorem map_rn_isR (xs : List Int) : ∀ z ∈ xs.map rn, isR z := by
  intro z hz
  obtain ⟨x, _, rfl⟩ := List.mem_map.1 hz
  exact rn_isR x
theorem get_rn (xs : List Int) (i : Nat) (h : i < xs.length) : (toI (xs.map rn)).getD i 0 = if Lib.validRune (xs.getD i 0) then xs.getD i 0 else 65533 := by
  rw [toI_get, List.getD_eq_getElem?_getD, List.getElem?_map, List.getElem?_eq_getElem h, List.getD_eq_getElem?_getD, List.getElem?_eq_getElem h]
  show ((rn xs[i] : Nat) : Int) = if Lib.validRune xs[i] then xs[i] else 65533
  unfold rn
  cases hv : Lib.validRune xs[i] with
  | true =>
    have hv' : decide ((0 ≤ xs[i] ∧ xs[i] < 0xD800) ∨ (0xDFFF < xs[i] ∧ xs[i] ≤ 0x10FFFF)) = true := hv
    have := of_decide_eq_true hv'
    simp only [if_true]
    omega
  | false => rfl
end Go.Proofs.YtapjfocjeligiaaGreatDoor
namespace Go.Proofs.YtapjfocjeligiaaGreatDoor
open Go.RowKit
set_option linter.unusedVariables false
set_option linter.unusedSimpArgs false

set_option maxHeartbeats 800000 in
theorem w_Size (n : Nat) (w : World) (hn : n ≤ 1114111) :
    Calls Tryz.prog 133 #[.int .i64 (n : Int)] w fun e w' => e = .returned (.int .i64 ((enc n).length : Int)) ∧ w' = w := by
  by_cases h1 : n < 0x80
  · have HL : Hid ((enc n).length = 1) := by show _ = _; unfold enc; rw [if_pos h1]; rfl
    have q1 : (n : Int) < 128 := by omega
    clear h1
    go_enter Tryz.func133, Tryz.ntmps133
    go_wp2_with fail
    go_ret
    exact ⟨by rw [HL.out]; rfl, rfl⟩
  by_cases h2 : n < 0x800
  · have HL : Hid ((enc n).length = 2) := by show _ = _; unfold enc; rw [if_neg h1, if_pos h2]; rfl
    have q1 : ¬ (n : Int) < 128 := by omega
    have q2 : (n : Int) < 2048 := by omega
    clear h1 h2
    go_enter Tryz.func133, Tryz.ntmps133
    go_wp2_with fail
    go_ret
    exact ⟨by rw [HL.out]; rfl, rfl⟩
  by_cases h3 : n < 0x10000
  · have HL : Hid ((enc n).length = 3) := by show _ = _; unfold enc; rw [if_neg h1, if_neg h2, if_pos h3]; rfl
    have q2 : ¬ (n : Int) < 2048 := by omega
    have q1 : ¬ (n : Int) < 128 := by omega
    have q3 : (n : Int) < 65536 := by omega
    clear h1 h2 h3
    go_enter Tryz.func133, Tryz.ntmps133
    go_wp2_with fail
    go_ret
    exact ⟨by rw [HL.out]; rfl, rfl⟩
  · have HL : Hid ((enc n).length = 4) := by show _ = _; unfold enc; rw [if_neg h1, if_neg h2, if_neg h3]; rfl
    have q1 : ¬ (n : Int) < 128 := by omega
    have q2 : ¬ (n : Int) < 2048 := by omega
    have q3 : ¬ (n : Int) < 65536 := by omega
    clear h1 h2 h3
    go_enter Tryz.func133, Tryz.ntmps133
    go_wp2_with fail
    go_ret
    exact ⟨by rw [HL.out]; rfl, rfl⟩
end Go.Proofs.YtapjfocjeligiaaGreatDoor
namespace Go.Proofs.YtapjfocjeligiaaGreatDoor
open Go.RowKit
set_option linter.unusedVariables false
set_option linter.unusedSimpArgs false

/-- a row of bytes, all of it used -/
def BRow (w : World) (g : Nat) (l : List UInt8) : Prop := w.heap[g]? = some (.cells (Lib.byteCells l).toArray 5 (0, 0))
theorem BRow.set {w : World} {g : Nat} {l : List UInt8} (h : BRow w g l) (i : Nat) (c : UInt8) (z : Int) (hz : z = (c.toNat : Int)) (hi : i < l.length) : BRow (w.setCell ⟨g, i, none⟩ (.int .u8 z)) g (l.set i c) := by
  unfold BRow at *
  subst hz
  rw [heap_setCell_same w g i _ _ _ h]
  congr 2
  rw [List.setIfInBounds_toArray]
  simp [Lib.byteCells, List.map_set]
theorem BRow.lt {w : World} {g : Nat} {l : List UInt8} (h : BRow w g l) : g < w.heap.size := (Array.getElem?_eq_some_iff.1 h).1
theorem BRow.free {w : World} {g : Nat} {l : List UInt8} (h : BRow w g l) (i : Nat) : w.frozen? ⟨g, i, none⟩ = false := frozen_of_row w g i _ _ h
theorem BRow.cell {w : World} {g : Nat} {l : List UInt8} (h : BRow w g l) (i : Nat) (hi : i < l.length) : w.cell? ⟨g, i, none⟩ = some (.int .u8 ((l.getD i 0).toNat : Int)) := by
  rw [cell_of_row w g i _ _ _ h]
  simp [Lib.byteCells, hi]

theorem bmade (m : Nat) : madeCells #[.int .u8 0] m = (Lib.byteCells (List.replicate m 0)).toArray := by
  unfold madeCells Lib.byteCells
  apply Array.ext
  · simp
  · intro i h1 h2
    have e : i % 1 = 0 := by omega
    simp [e]
theorem brow_new (w : World) (m : Nat) : BRow (w.alloc (brow m)) w.heap.size (List.replicate m 0) := by
  have h := heap_alloc_new w (brow m)
  unfold BRow
  rw [h]
  unfold brow
  rw [bmade]
theorem run_make_brow (m : Nat) (z : Int) (hz : z = (m : Int)) (hn : m ≤ 140737488355328) (u : World) : (Instr.makeSlice 159 (.int .i64 z) (.int .i64 z)).run Tryz.prog u = .ok (.slice (some ⟨u.heap.size, 0, none⟩) m m) (u.alloc (brow m)) := by
  subst hz
  obtain ⟨i0, hi, hz0, hz1, hz2⟩ := info_parts Tryz.infoB
  have h := run_make (P := Tryz.prog) u 159 5 i0 (.int .u8 0) Tryz.underlying159 hi hz0 .i64 .i64 (m : Int) (m : Int) (by omega) (Int.le_refl _) (by rw [hz2]; omega) (by omega)
  have e : ((m : Int)).toNat = m := by omega
  rw [e] at h
  simpa [hz1, Value.cells, brow] using h

/-- a call that answers a new row of bytes -/
def BytesR (w w' : World) (e : Ending) (l : List UInt8) : Prop := ∃ g, e = .returned (.slice (some ⟨g, 0, none⟩) l.length l.length) ∧ w.heap.size ≤ g ∧ Hid (BRow w' g l) ∧ Below w.heap.size w w'

set_option maxRecDepth 100000 in
set_option maxHeartbeats 1600000 in
theorem w_Encoding1 (n : Nat) (w : World) (h1 : n < 0x80) :
    Calls Tryz.prog 129 #[.int .i64 (n : Int)] w fun e w' => BytesR w w' e (enc n) := by
  have he : enc n = [UInt8.ofNat n] := by unfold enc; rw [if_pos h1]
  have HI := Hid.mk (fun u => w_IsRune (n : Int) u)
  rw [show Lib.validRune (n : Int) = true from decide_eq_true (by omega)] at HI
  have HS := Hid.mk (fun u => w_Size n u (by omega))
  rw [he] at HS
  rw [show (([UInt8.ofNat n].length : Nat) : Int) = 1 from rfl] at HS
  have HBR : ∀ z : Int, z = (n : Int) → BRow (w.alloc (.cells #[.int .u8 z] 5)) w.heap.size [UInt8.ofNat n] := by
    intro z hz
    have h := heap_alloc_new w (.cells #[.int .u8 z] 5)
    unfold BRow
    rw [h, hz]
    have e : (UInt8.ofNat n).toNat = n := ofNat_small (by omega)
    simp [Lib.byteCells, e]
  have HBH := Hid.mk HBR
  have hn1 : (n : Int) < 128 := by omega
  unfold BytesR
  rw [he]
  clear HBR he
  go_enter Tryz.func129, Tryz.ntmps129
  go_wp2_with fail
  refine (HI.out _).mono ?_
  rintro e w1 ⟨rfl, hw⟩
  obtain rfl := hw.symm
  go_wp2_with fail
  refine (HS.out _).mono ?_
  rintro e w1 ⟨rfl, hw⟩
  obtain rfl := hw.symm
  go_wp2_with fail
  go_ret
  exact ⟨_, rfl, Nat.le_refl _, HBH.out _ (by first | rfl | omega), below1 w _⟩


set_option maxRecDepth 100000 in
set_option maxHeartbeats 1600000 in
theorem w_Encoding2 (n : Nat) (w : World) (h1 : ¬ n < 0x80) (h2 : n < 0x800) :
    Calls Tryz.prog 129 #[.int .i64 (n : Int)] w fun e w' => BytesR w w' e (enc n) := by
  have he : enc n = [UInt8.ofNat (0xC0 + n / 64), UInt8.ofNat (0x80 + n % 64)] := by unfold enc; rw [if_neg h1, if_pos h2]
  have HI := Hid.mk (fun u => w_IsRune (n : Int) u)
  rw [show Lib.validRune (n : Int) = true from decide_eq_true (by omega)] at HI
  have HS := Hid.mk (fun u => w_Size n u (by omega))
  rw [he] at HS
  rw [show (([UInt8.ofNat (0xC0 + n / 64), UInt8.ofNat (0x80 + n % 64)].length : Nat) : Int) = 2 from rfl] at HS
  have hmk := fun (u : World) => run_make_brow 2 2 rfl (by decide) u
  have hb0 : BRow (w.alloc (brow 2)) w.heap.size [0, 0] := brow_new w 2
  have hf0 := fun i => hb0.free i
  have hcl0 := hb0.cell 0 (by decide)
  have hcl1 := hb0.cell 1 (by decide)
  unfold BytesR
  rw [he]
  have hn1 : ¬ (n : Int) < 128 := by omega
  have hn2 : (n : Int) < 2048 := by omega
  have HB0 := Hid.mk hb0
  clear he hb0
  go_enter Tryz.func129, Tryz.ntmps129
  go_wp2_with fail
  refine (HI.out _).mono ?_
  rintro e w1 ⟨rfl, hw⟩
  obtain rfl := hw.symm
  go_wp2_with fail
  refine (HS.out _).mono ?_
  rintro e w1 ⟨rfl, hw⟩
  obtain rfl := hw.symm
  go_wp2_with fail
  refine wp_loop_rounds 2 ?_
  rw [rounds_succ]
  go_wp2_with fail
  rw [rounds_succ]
  go_wp2_with fail
  go_ret
  have hb0 := HB0.out
  exact ⟨_, rfl, Nat.le_refl _, ((hb0.set 1 (UInt8.ofNat (0x80 + n % 64)) _ (by rw [ofNat_small (by omega)]; omega) (by simp)).set 0 (UInt8.ofNat (0xC0 + n / 64)) _ (by rw [ofNat_small (by omega)]; omega) (by simp)), (((below1 w (brow 2)).setCell (Nat.le_refl _) _).setCell (Nat.le_refl _) _)⟩

set_option maxRecDepth 100000 in
set_option maxHeartbeats 1600000 in
theorem w_Encoding3 (n : Nat) (w : World) (h1 : ¬ n < 0x80) (h2 : ¬ n < 0x800) (h3 : n < 0x10000) (hR : isR n) :
    Calls Tryz.prog 129 #[.int .i64 (n : Int)] w fun e w' => BytesR w w' e (enc n) := by
  unfold isR at hR
  have he : enc n = [UInt8.ofNat (0xE0 + n / 4096), UInt8.ofNat (0x80 + n / 64 % 64), UInt8.ofNat (0x80 + n % 64)] := by unfold enc; rw [if_neg h1, if_neg h2, if_pos h3]
  have HI := Hid.mk (fun u => w_IsRune (n : Int) u)
  rw [show Lib.validRune (n : Int) = true from decide_eq_true (by omega)] at HI
  have HS := Hid.mk (fun u => w_Size n u (by omega))
  rw [he] at HS
  rw [show (([UInt8.ofNat (0xE0 + n / 4096), UInt8.ofNat (0x80 + n / 64 % 64), UInt8.ofNat (0x80 + n % 64)].length : Nat) : Int) = 3 from rfl] at HS
  have hmk := fun (u : World) => run_make_brow 3 3 rfl (by decide) u
  have hb0 : BRow (w.alloc (brow 3)) w.heap.size [0, 0, 0] := brow_new w 3
  have hf0 := fun i => hb0.free i
  have hcl0 := hb0.cell 0 (by decide)
  have hcl1 := hb0.cell 1 (by decide)
  have hcl2 := hb0.cell 2 (by decide)
  unfold BytesR
  rw [he]
  have hn1 : ¬ (n : Int) < 128 := by omega
  have hn2 : ¬ (n : Int) < 2048 := by omega
  have hn3 : (n : Int) < 65536 := by omega
  have HB0 := Hid.mk hb0
  clear he hb0
  go_enter Tryz.func129, Tryz.ntmps129
  go_wp2_with fail
  refine (HI.out _).mono ?_
  rintro e w1 ⟨rfl, hw⟩
  obtain rfl := hw.symm
  go_wp2_with fail
  refine (HS.out _).mono ?_
  rintro e w1 ⟨rfl, hw⟩
  obtain rfl := hw.symm
  go_wp2_with fail
  refine wp_loop_rounds 3 ?_
  rw [rounds_succ]
  go_wp2_with fail
  rw [rounds_succ]
  go_wp2_with fail
  rw [rounds_succ]
  go_wp2_with fail
  go_ret
  have hb0 := HB0.out
  exact ⟨_, rfl, Nat.le_refl _, (((hb0.set 2 (UInt8.ofNat (0x80 + n % 64)) _ (by rw [ofNat_small (by omega)]; omega) (by simp)).set 1 (UInt8.ofNat (0x80 + n / 64 % 64)) _ (by rw [ofNat_small (by omega)]; omega) (by simp)).set 0 (UInt8.ofNat (0xE0 + n / 4096)) _ (by rw [ofNat_small (by omega)]; omega) (by simp)), ((((below1 w (brow 3)).setCell (Nat.le_refl _) _).setCell (Nat.le_refl _) _).setCell (Nat.le_refl _) _)⟩

set_option maxRecDepth 100000 in
set_option maxHeartbeats 1600000 in
theorem w_Encoding4 (n : Nat) (w : World) (h1 : ¬ n < 0x80) (h2 : ¬ n < 0x800) (h3 : ¬ n < 0x10000) (hR : isR n) :
    Calls Tryz.prog 129 #[.int .i64 (n : Int)] w fun e w' => BytesR w w' e (enc n) := by
  unfold isR at hR
  have he : enc n = [UInt8.ofNat (0xF0 + n / 262144), UInt8.ofNat (0x80 + n / 4096 % 64), UInt8.ofNat (0x80 + n / 64 % 64), UInt8.ofNat (0x80 + n % 64)] := by unfold enc; rw [if_neg h1, if_neg h2, if_neg h3]
  have HI := Hid.mk (fun u => w_IsRune (n : Int) u)
  rw [show Lib.validRune (n : Int) = true from decide_eq_true (by omega)] at HI
  have HS := Hid.mk (fun u => w_Size n u (by omega))
  rw [he] at HS
  rw [show (([UInt8.ofNat (0xF0 + n / 262144), UInt8.ofNat (0x80 + n / 4096 % 64), UInt8.ofNat (0x80 + n / 64 % 64), UInt8.ofNat (0x80 + n % 64)].length : Nat) : Int) = 4 from rfl] at HS
  have hmk := fun (u : World) => run_make_brow 4 4 rfl (by decide) u
  have hb0 : BRow (w.alloc (brow 4)) w.heap.size [0, 0, 0, 0] := brow_new w 4
  have hf0 := fun i => hb0.free i
  have hcl0 := hb0.cell 0 (by decide)
  have hcl1 := hb0.cell 1 (by decide)
  have hcl2 := hb0.cell 2 (by decide)
  have hcl3 := hb0.cell 3 (by decide)
  unfold BytesR
  rw [he]
  have hn1 : ¬ (n : Int) < 128 := by omega
  have hn2 : ¬ (n : Int) < 2048 := by omega
  have hn3 : ¬ (n : Int) < 65536 := by omega
  have hn4 : (n : Int) ≤ 1114111 := by omega
  have HB0 := Hid.mk hb0
  clear he hb0
  go_enter Tryz.func129, Tryz.ntmps129
  go_wp2_with fail
  refine (HI.out _).mono ?_
  rintro e w1 ⟨rfl, hw⟩
  obtain rfl := hw.symm
  go_wp2_with fail
  refine (HS.out _).mono ?_
  rintro e w1 ⟨rfl, hw⟩
  obtain rfl := hw.symm
  go_wp2_with fail
  refine wp_loop_rounds 4 ?_
  rw [rounds_succ]
  go_wp2_with fail
  rw [rounds_succ]
  go_wp2_with fail
  rw [rounds_succ]
  go_wp2_with fail
  rw [rounds_succ]
  go_wp2_with fail
  go_ret
  have hb0 := HB0.out
  exact ⟨_, rfl, Nat.le_refl _, ((((hb0.set 3 (UInt8.ofNat (0x80 + n % 64)) _ (by rw [ofNat_small (by omega)]; omega) (by simp)).set 2 (UInt8.ofNat (0x80 + n / 64 % 64)) _ (by rw [ofNat_small (by omega)]; omega) (by simp)).set 1 (UInt8.ofNat (0x80 + n / 4096 % 64)) _ (by rw [ofNat_small (by omega)]; omega) (by simp)).set 0 (UInt8.ofNat (0xF0 + n / 262144)) _ (by rw [ofNat_small (by omega)]; omega) (by simp)), (((((below1 w (brow 4)).setCell (Nat.le_refl _) _).setCell (Nat.le_refl _) _).setCell (Nat.le_refl _) _).setCell (Nat.le_refl _) _)⟩
end Go.Proofs.YtapjfocjeligiaaGreatDoor
namespace Go.Proofs.YtapjfocjeligiaaGreatDoor
open Go.RowKit
set_option linter.unusedVariables false
set_option linter.unusedSimpArgs false

set_option maxRecDepth 100000 in
set_option maxHeartbeats 1600000 in
theorem w_EncodingBad (z : Int) (w : World) (hz : Lib.validRune z = false) :
    Calls Tryz.prog 129 #[.int .i64 z] w fun e w' => BytesR w w' e [239, 191, 189] := by
  have HI := Hid.mk (fun u => w_IsRune z u)
  rw [hz] at HI
  have HS := Hid.mk (fun u => w_Size 65533 u (by omega))
  rw [enc_err, show (([239, 191, 189] : List UInt8).length : Int) = 3 from rfl, show ((65533 : Nat) : Int) = 65533 from rfl] at HS
  have hmk := fun (u : World) => run_make_brow 3 3 rfl (by decide) u
  have hb0 : BRow (w.alloc (brow 3)) w.heap.size [0, 0, 0] := brow_new w 3
  have hf0 := fun i => hb0.free i
  have hcl0 := hb0.cell 0 (by decide)
  have hcl1 := hb0.cell 1 (by decide)
  have hcl2 := hb0.cell 2 (by decide)
  unfold BytesR
  have HB0 := Hid.mk hb0
  clear hb0 hz
  go_enter Tryz.func129, Tryz.ntmps129
  go_wp2_with fail
  refine (HI.out _).mono ?_
  rintro e w1 ⟨rfl, hw⟩
  obtain rfl := hw.symm
  go_wp2_with fail
  refine (HS.out _).mono ?_
  rintro e w1 ⟨rfl, hw⟩
  obtain rfl := hw.symm
  go_wp2_with fail
  refine wp_loop_rounds 3 ?_
  rw [rounds_succ]
  go_wp2_with fail
  rw [rounds_succ]
  go_wp2_with fail
  rw [rounds_succ]
  go_wp2_with fail
  go_ret
  have hb0 := HB0.out
  exact ⟨_, rfl, Nat.le_refl _, (((hb0.set 2 189 _ (by decide) (by simp)).set 1 191 _ (by decide) (by simp)).set 0 239 _ (by decide) (by simp)), ((((below1 w (brow 3)).setCell (Nat.le_refl _) _).setCell (Nat.le_refl _) _).setCell (Nat.le_refl _) _)⟩

theorem w_Encoding (z : Int) (w : World) :
    Calls Tryz.prog 129 #[.int .i64 z] w fun e w' => BytesR w w' e (enc (rn z)) := by
  cases hv : Lib.validRune z with
  | false =>
    have e : rn z = 65533 := by unfold rn; rw [hv]; rfl
    rw [e, enc_err]
    exact w_EncodingBad z w hv
  | true =>
    have hv' : decide ((0 ≤ z ∧ z < 0xD800) ∨ (0xDFFF < z ∧ z ≤ 0x10FFFF)) = true := hv
    have h := of_decide_eq_true hv'
    have e : rn z = z.toNat := by unfold rn; rw [hv]; rfl
    have hR := rn_isR z
    have ez : z = ((rn z : Nat) : Int) := by rw [e]; omega
    generalize rn z = n at *
    subst ez
    by_cases h1 : n < 0x80
    · exact w_Encoding1 n w h1
    by_cases h2 : n < 0x800
    · exact w_Encoding2 n w h1 h2
    by_cases h3 : n < 0x10000
    · exact w_Encoding3 n w h1 h2 h3 hR
    · exact w_Encoding4 n w h1 h2 h3 hR
end Go.Proofs.YtapjfocjeligiaaGreatDoor
namespace Go.Proofs.YtapjfocjeligiaaGreatDoor
open Go.RowKit
set_option linter.unusedVariables false
set_option linter.unusedSimpArgs false

theorem conv_zero' (w : World) (p : Option Addr) (c : Nat) : (convert 159 9 (.slice p 0 c)).run Tryz.prog w = .ok (.string ByteArray.empty) w := by
  rw [run_convert_bytes_string w 159 9 5 _ 0 c Tryz.underlying159 Tryz.underlying5 Tryz.underlying9]
  cases p <;> simp [Conv.bytesToString, loadCells]
  all_goals rfl
theorem conv_own' {wr : World} {base n : Nat} {l : List UInt8} {ao : Option Addr} {cap : Nat} (h1 : l.length = n) (h3 : wr.ownsRow base 5 1 (.slice ao n cap) n (Lib.byteCells l)) : (convert 159 9 (.slice ao n cap)).run Tryz.prog wr = .ok (.string ⟨l.toArray⟩) wr := by
  by_cases hn : 0 < n
  · obtain ⟨g, cap', hv⟩ := own_some h3 hn
    cases hv
    exact bytes_conv h1 h3
  · have e : n = 0 := by omega
    subst e
    have e2 : l = [] := List.eq_nil_of_length_eq_zero h1
    subst e2
    exact conv_zero' wr ao cap

theorem own_below' {w w1 : World} {B e size n : Nat} {v : Value} {xs : List Value} (h : w.ownsRow B e size v n xs) (hb : Below w.heap.size w w1) : w1.ownsRow B e size v n xs := by
  refine ⟨h.1, ?_⟩
  rcases h.2 with h0 | ⟨g, cap, cur, hv, hb', hg, rest⟩
  · exact .inl h0
  · refine .inr ⟨g, cap, cur, hv, hb', ?_, rest⟩
    rw [hb.block g (Array.getElem?_eq_some_iff.1 hg).1]
    exact hg
def rtxt (xs : List Int) : List UInt8 := xs.flatMap fun x => enc (rn x)
/-- while the reference writes -/
structure TxSt (w wr : World) (v : Value) (n : Nat) (xs : List Int) (k : Nat) : Prop where
  own : (rtxt (xs.take k)).length = n ∧ wr.ownsRow w.heap.size 5 1 v n (Lib.byteCells (rtxt (xs.take k)))
  below : Below w.heap.size w wr
end Go.Proofs.YtapjfocjeligiaaGreatDoor
namespace Go.Proofs.YtapjfocjeligiaaGreatDoor
open Go.RowKit
set_option linter.unusedVariables false
set_option linter.unusedSimpArgs false

/-- these bytes stand in s from f on -/
def stands (s : ByteArray) (f : Nat) (l : List UInt8) : Prop := f + l.length ≤ s.size ∧ ∀ j, j < l.length → s.data.toList.getD (f + j) 0 = l.getD j 0
instance (s : ByteArray) (f : Nat) (l : List UInt8) : Decidable (stands s f l) := inferInstanceAs (Decidable (_ ∧ _))

theorem stands_iff (s : ByteArray) (f : Nat) (l : List UInt8) (hf : f ≤ s.size) : stands s f l ↔ ∃ post, s.data.toList.drop f = l ++ post := by
  have hsl : s.data.toList.length = s.size := by rw [Array.length_toList]; rfl
  constructor
  · rintro ⟨h1, h2⟩
    refine ⟨s.data.toList.drop (f + l.length), ?_⟩
    rw [← List.drop_drop]
    have : l = (s.data.toList.drop f).take l.length := by
      apply List.ext_getElem
      · rw [List.length_take, List.length_drop]; omega
      · intro j h3 h4
        have := h2 j h3
        rw [List.getElem_take, List.getElem_drop]
        rw [List.getD_eq_getElem?_getD, List.getD_eq_getElem?_getD, List.getElem?_eq_getElem (by omega), List.getElem?_eq_getElem h3] at this
        exact this.symm
    exact (List.take_append_drop l.length (s.data.toList.drop f)).symm.trans (by rw [← this])
  · rintro ⟨post, h⟩
    have hl := congrArg List.length h
    rw [List.length_drop, List.length_append, hsl] at hl
    by_cases hl0 : l.length = 0
    · have e : l = [] := List.eq_nil_of_length_eq_zero hl0
      subst e
      exact ⟨by simpa using hf, fun j hj => by cases hj⟩
    · refine ⟨by omega, fun j hj => ?_⟩
      have : (s.data.toList.drop f).getD j 0 = (l ++ post).getD j 0 := by rw [h]
      rw [List.getD_eq_getElem?_getD, List.getElem?_drop, List.getD_eq_getElem?_getD, List.getElem?_append_left hj] at this
      rw [List.getD_eq_getElem?_getD, List.getD_eq_getElem?_getD]
      exact this

set_option maxRecDepth 100000 in
set_option maxHeartbeats 1600000 in
theorem w_same (s : ByteArray) (f g : Nat) (l : List UInt8) (w : World) (hB : BRow w g l) (hf : f ≤ s.size) (hs : s.size ≤ 4611686018427387904) (hl : l.length ≤ 1099511627776) :
    Calls Tryz.prog 128 #[.string s, .int .i64 (f : Int), .slice (some ⟨g, 0, none⟩) l.length l.length] w fun e w' => e = .returned (.bool (decide (stands s f l))) ∧ Below w.heap.size w w' := by
  obtain ⟨N, hN⟩ : ∃ N, l.length = N := ⟨_, rfl⟩
  have HN := Hid.mk hN
  have HB := Hid.mk hB
  rw [hN] at hl ⊢
  clear hN hB
  by_cases hfit : f + N ≤ s.size
  · have q0 : ¬ (s.size : Int) < (f : Int) + (N : Int) := by omega
    go_enter Tryz.func128, Tryz.ntmps128
    go_wp2_with fail
    go_loopw [7] (fun i wr => ∃ (k : Nat), k ≤ N ∧ i = .int .i64 k ∧ Hid (Below w.heap.size w wr ∧ ∀ j, j < k → s.data.toList.getD (f + j) 0 = l.getD j 0)) (fun i _ => N - (intOf i).toNat)
    case atStart => exact ⟨0, Nat.zero_le _, rfl, Below.refl _ _, fun j hj => by cases hj⟩
    case round =>
      obtain ⟨k, hk, rfl, HQ⟩ := hrel
      by_cases hlt : k < N
      · have hk1 : (k : Int) < (N : Int) := by omega
        have hkl : k < l.length := by rw [HN.out]; exact hlt
        have hc1 := (HQ.out.1.cell (p := ⟨g, k, none⟩) HB.out.lt).trans (HB.out.cell k hkl)
        have hfk : f + k < s.size := by omega
        have hfk2 : (f : Int) + (k : Int) < (s.size : Int) := by omega
        have hg : s[f + k]'hfk = s.data.toList.getD (f + k) 0 := by
          have hll : f + k < s.data.toList.length := by rw [Array.length_toList]; exact hfk
          rw [List.getD_eq_getElem?_getD, List.getElem?_eq_getElem hll]; rfl
        obtain ⟨a, ha⟩ : ∃ a, a = s[f + k]'hfk := ⟨_, rfl⟩
        obtain ⟨b, hb⟩ : ∃ b, b = l.getD k 0 := ⟨_, rfl⟩
        rw [← hb] at hc1
        obtain ⟨p, hp⟩ : ∃ p, p = f + k := ⟨_, rfl⟩
        have hpi : (f : Int) + (k : Int) = (p : Int) := by omega
        have hps : p < s.size := by omega
        have hps2 : (p : Int) < (s.size : Int) := by omega
        have gp : s[p]'hps = a := by subst hp; exact ha.symm
        have HGA : Hid (s.data.toList.getD (f + k) 0 = a) := by show _ = _; rw [ha, hg]
        by_cases hab : a = b
        · have q1 : (((a.toNat : Nat) : Int) != ((b.toNat : Nat) : Int)) = false := by rw [hab]; simp
          have HNx : Hid (∀ j, j < k + 1 → s.data.toList.getD (f + j) 0 = l.getD j 0) := by
            intro j hj
            rcases Nat.lt_or_ge j k with h | h
            · exact HQ.out.2 j h
            · have : j = k := by omega
              subst this
              rw [HGA.out, hab, hb]
          clear hab hb hg ha hkl hp hfk2
          go_wp2_with fail
          go_quiet (fail)
          have HQ2 : Hid (Below w.heap.size w (wr.drewN nq)) := ⟨HQ.out.1.os, HQ.out.1.tape, HQ.out.1.output, HQ.out.1.size, HQ.out.1.block⟩
          go_wp2_with fail
          go_roundw
          case measure => simp [intOf]; omega
          exact ⟨k + 1, by omega, by go_num, HQ2.out, HNx.out⟩
        · have q1 : (((a.toNat : Nat) : Int) != ((b.toNat : Nat) : Int)) = true := by
            rw [bne_iff_ne]
            intro e
            apply hab
            apply UInt8.toNat_inj.1
            omega
          have HD : Hid (decide (stands s f l) = false) := by
            show _ = _
            refine decide_eq_false fun h => hab ?_
            rw [ha, hg, hb]
            exact h.2 k hkl
          clear hab hb hg ha hkl hp hfk2
          go_wp2_with fail
          go_quiet (fail)
          have HQ2 : Hid (Below w.heap.size w (wr.drewN nq)) := ⟨HQ.out.1.os, HQ.out.1.tape, HQ.out.1.output, HQ.out.1.size, HQ.out.1.block⟩
          go_wp2_with fail
          go_ret
          exact ⟨by rw [HD.out]; rfl, HQ2.out⟩
      · have hk1 : ¬ (k : Int) < (N : Int) := by omega
        have HD : Hid (decide (stands s f l) = true) := by
          show _ = _
          refine decide_eq_true ⟨by rw [HN.out]; exact hfit, fun j hj => HQ.out.2 j ?_⟩
          rw [HN.out] at hj; omega
        go_wp2_with fail
        go_ret
        exact ⟨by rw [HD.out]; rfl, HQ.out.1⟩
  · have q0 : (s.size : Int) < (f : Int) + (N : Int) := by omega
    have HD : Hid (decide (stands s f l) = false) := by
      show _ = _
      refine decide_eq_false fun h => hfit ?_
      have := h.1; rw [HN.out] at this; exact this
    clear hfit
    go_enter Tryz.func128, Tryz.ntmps128
    go_wp2_with fail
    go_ret
    exact ⟨by rw [HD.out]; rfl, Below.refl _ _⟩
end Go.Proofs.YtapjfocjeligiaaGreatDoor
namespace Go.Proofs.YtapjfocjeligiaaGreatDoor
open Go.RowKit
set_option linter.unusedVariables false
set_option linter.unusedSimpArgs false

/-- the number that bytes spell, taken loosely: after k bytes more -/
def nv (b : Nat → Nat) (sub : Nat) : Nat → Int
  | 0 => (b 0 : Int) - (sub : Int)
  | k + 1 => 64 * nv b sub k + (b (k + 1) : Int) - 128
def subN (N : Nat) : Nat := if N = 2 then 192 else if N = 3 then 224 else if N = 4 then 240 else 0

theorem ofNat_toNat {x : Nat} (h : x < 256) : (UInt8.ofNat x).toNat = x := by simp; omega

theorem enc_nv (m : Nat) (hR : isR m) (N : Nat) (h : (enc m).length = N) (b : Nat → Nat) (hb : ∀ j, j < N → b j = ((enc m).getD j 0).toNat) :
    subN N ≤ b 0 ∧ (∀ j, 1 ≤ j → j < N → 128 ≤ b j ∧ b j ≤ 191) ∧ nv b (subN N) (N - 1) = (m : Int) := by
  unfold isR at hR
  unfold enc at h hb
  by_cases h1 : m < 0x80
  · rw [if_pos h1] at h hb
    obtain rfl : N = 1 := by simpa using h.symm
    have e0 := hb 0 (by omega)
    simp only [List.getD_cons_zero] at e0
    rw [ofNat_toNat (by omega)] at e0
    refine ⟨by simp [subN], fun j h1 h2 => by omega, ?_⟩
    simp [nv, subN, e0]
  rw [if_neg h1] at h hb
  by_cases h2 : m < 0x800
  · rw [if_pos h2] at h hb
    obtain rfl : N = 2 := by simpa using h.symm
    have e0 := hb 0 (by omega)
    have e1 := hb 1 (by omega)
    simp only [List.getD_cons_zero, List.getD_cons_succ] at e0 e1
    rw [ofNat_toNat (by omega)] at e0 e1
    refine ⟨by simp [subN]; omega, fun j h1 h2 => ?_, ?_⟩
    · obtain rfl : j = 1 := by omega
      omega
    · simp [nv, subN, e0, e1]; omega
  rw [if_neg h2] at h hb
  by_cases h3 : m < 0x10000
  · rw [if_pos h3] at h hb
    obtain rfl : N = 3 := by simpa using h.symm
    have e0 := hb 0 (by omega)
    have e1 := hb 1 (by omega)
    have e2 := hb 2 (by omega)
    simp only [List.getD_cons_zero, List.getD_cons_succ] at e0 e1 e2
    rw [ofNat_toNat (by omega)] at e0 e1 e2
    refine ⟨by simp [subN]; omega, fun j h1 h2 => ?_, ?_⟩
    · rcases (show j = 1 ∨ j = 2 by omega) with rfl | rfl <;> omega
    · simp [nv, subN, e0, e1, e2]; omega
  · rw [if_neg h3] at h hb
    obtain rfl : N = 4 := by simpa using h.symm
    have e0 := hb 0 (by omega)
    have e1 := hb 1 (by omega)
    have e2 := hb 2 (by omega)
    have e3 := hb 3 (by omega)
    simp only [List.getD_cons_zero, List.getD_cons_succ] at e0 e1 e2 e3
    rw [ofNat_toNat (by omega)] at e0 e1 e2 e3
    refine ⟨by simp [subN]; omega, fun j h1 h2 => ?_, ?_⟩
    · rcases (show j = 1 ∨ j = 2 ∨ j = 3 by omega) with rfl | rfl | rfl <;> omega
    · simp [nv, subN, e0, e1, e2, e3]; omega

/-- what spelled answers -/
structure SpV (s : ByteArray) (f N : Nat) (v : Int) : Prop where
  some : v = -1 ∨ ∃ m : Nat, v = (m : Int) ∧ isR m ∧ (enc m).length = N
  told : ∀ m, isR m → (enc m).length = N → stands s f (enc m) → v = (m : Int)

def byt (s : ByteArray) (f j : Nat) : Nat := (s.data.toList.getD (f + j) 0).toNat

theorem spv_no {s : ByteArray} {f N : Nat} (h : ∀ m, isR m → (enc m).length = N → stands s f (enc m) → False) : SpV s f N (-1) := ⟨.inl rfl, fun m a b c => (h m a b c).elim⟩
theorem spv_enc {s : ByteArray} {f N m : Nat} (hR : isR m) (h : (enc m).length = N) (hs : stands s f (enc m)) :
    subN N ≤ byt s f 0 ∧ (∀ j, 1 ≤ j → j < N → 128 ≤ byt s f j ∧ byt s f j ≤ 191) ∧ nv (byt s f) (subN N) (N - 1) = (m : Int) :=
  enc_nv m hR N h (byt s f) (fun j hj => by unfold byt; rw [hs.2 j (by omega)])

theorem valid_nat {z : Int} (h : Lib.validRune z = true) : ∃ m : Nat, z = (m : Int) ∧ isR m := by
  have h : decide ((0 ≤ z ∧ z < 0xD800) ∨ (0xDFFF < z ∧ z ≤ 0x10FFFF)) = true := h
  have h := of_decide_eq_true h
  exact ⟨z.toNat, by omega, by unfold isR; omega⟩
theorem valid_isR {m : Nat} (h : isR m) : Lib.validRune (m : Int) = true := by rw [← valid_rn]; exact valid_of h

/-- while spelled reads -/
structure SpSt (s : ByteArray) (f N : Nat) (w wr : World) (k : Nat) (z : Int) : Prop where
  val : z = nv (byt s f) (subN N) (k - 1)
  top : z + 1 ≤ ((256 * 64 ^ (k - 1) : Nat) : Int)
  below : Below w.heap.size w wr

theorem spst_le {s : ByteArray} {f N k : Nat} {w wr : World} {z : Int} (h : SpSt s f N w wr k z) (hk : k ≤ 4) : z ≤ 67108864 := by
  have h1 := h.top
  have h2 : 64 ^ (k - 1) ≤ 64 ^ 3 := Nat.pow_le_pow_right (by decide) (by omega)
  have h3 : (64 : Nat) ^ 3 = 262144 := by decide
  omega
theorem spst_up {s : ByteArray} {f N k : Nat} {w wr : World} {z : Int} (h : SpSt s f N w wr k z) (hk : 1 ≤ k) {c : Nat} (hc : c = byt s f k) (hc2 : c ≤ 191) : SpSt s f N w wr (k + 1) (64 * z + (c : Int) - 128) := by
  obtain ⟨j, rfl⟩ : ∃ j, k = j + 1 := ⟨k - 1, by omega⟩
  have h1 := h.top
  have h0 := h.val
  rw [show j + 1 - 1 = j by omega] at h0 h1
  refine ⟨?_, ?_, h.below⟩
  · rw [show j + 1 + 1 - 1 = j + 1 by omega]
    show _ = 64 * nv (byt s f) (subN N) j + (byt s f (j + 1) : Int) - 128
    rw [← h0, hc]
  · rw [show j + 1 + 1 - 1 = j + 1 by omega, Nat.pow_succ]
    omega

theorem byte_at {s : ByteArray} {f k : Nat} (h : f + k < s.size) : ((s[f + k]'h).toNat) = byt s f k := by
  have hll : f + k < s.data.toList.length := by rw [Array.length_toList]; exact h
  unfold byt
  rw [List.getD_eq_getElem?_getD, List.getElem?_eq_getElem hll]; rfl

set_option maxRecDepth 100000 in
set_option maxHeartbeats 4000000 in
theorem w_spelled (s : ByteArray) (f N : Nat) (w : World) (hN1 : 1 ≤ N) (hN4 : N ≤ 4) (hf : f + N ≤ s.size) (hs : s.size ≤ 4611686018427387904) :
    Calls Tryz.prog 127 #[.string s, .int .i64 (f : Int), .int .i64 (N : Int)] w fun e w' => ∃ v : Int, e = .returned (.int .i64 v) ∧ Hid (SpV s f N v) ∧ Below w.heap.size w w' := by
  have hf0 : f < s.size := by omega
  have hf1 : (f : Int) < (s.size : Int) := by omega
  obtain ⟨a, ha⟩ : ∃ a, a = s[f]'hf0 := ⟨_, rfl⟩
  have ga : s[f]'hf0 = a := ha.symm
  have hA0 : a.toNat = byt s f 0 := by rw [ha]; exact byte_at (k := 0) hf0
  have HA := Hid.mk hA0
  have hab : a.toNat < 256 := a.toNat_lt
  clear ha hA0
  obtain ⟨A, hA⟩ : ∃ A : Int, A = (a.toNat : Int) := ⟨_, rfl⟩
  have hcases : (((N : Int) == 2) = false ∧ ((N : Int) == 3) = false ∧ ((N : Int) == 4) = false ∧ Hid ((a.toNat : Int) < 0 ↔ a.toNat < subN N) ∧ Hid ((a.toNat : Int) = nv (byt s f) (subN N) 0))
      ∨ (((N : Int) == 2) = true ∧ ((N : Int) == 3) = false ∧ ((N : Int) == 4) = false ∧ Hid ((a.toNat : Int) - 192 < 0 ↔ a.toNat < subN N) ∧ Hid ((a.toNat : Int) - 192 = nv (byt s f) (subN N) 0))
      ∨ (((N : Int) == 2) = false ∧ ((N : Int) == 3) = true ∧ ((N : Int) == 4) = false ∧ Hid ((a.toNat : Int) - 224 < 0 ↔ a.toNat < subN N) ∧ Hid ((a.toNat : Int) - 224 = nv (byt s f) (subN N) 0))
      ∨ (((N : Int) == 2) = false ∧ ((N : Int) == 3) = false ∧ ((N : Int) == 4) = true ∧ Hid ((a.toNat : Int) - 240 < 0 ↔ a.toNat < subN N) ∧ Hid ((a.toNat : Int) - 240 = nv (byt s f) (subN N) 0)) := by
    have e := HA.out
    rcases (show N = 1 ∨ N = 2 ∨ N = 3 ∨ N = 4 by omega) with rfl | rfl | rfl | rfl
    · refine .inl ⟨by decide, by decide, by decide, ?_, ?_⟩
      · show _ ↔ _; simp [subN]
      · show _ = _; simp [subN, nv, e]
    · refine .inr (.inl ⟨by decide, by decide, by decide, ?_, ?_⟩)
      · show _ ↔ _; simp [subN]; omega
      · show _ = _; simp [subN, nv, e]
    · refine .inr (.inr (.inl ⟨by decide, by decide, by decide, ?_, ?_⟩))
      · show _ ↔ _; simp [subN]; omega
      · show _ = _; simp [subN, nv, e]
    · refine .inr (.inr (.inr ⟨by decide, by decide, by decide, ?_, ?_⟩))
      · show _ ↔ _; simp [subN]; omega
      · show _ = _; simp [subN, nv, e]
  clear hA A
  rcases hcases with ⟨e2, e3, e4, HI, HZ⟩ | ⟨e2, e3, e4, HI, HZ⟩ | ⟨e2, e3, e4, HI, HZ⟩ | ⟨e2, e3, e4, HI, HZ⟩
  all_goals
    by_cases hneg : a.toNat < subN N
    · have q0 := HI.out.2 hneg
      have HNo : Hid (SpV s f N (-1)) := spv_no fun m h1 h2 h3 => by
        have := (spv_enc h1 h2 h3).1
        have := HA.out
        omega
      clear hneg
      go_enter Tryz.func127, Tryz.ntmps127
      go_wp2_with fail
      go_ret
      exact ⟨_, rfl, HNo, Below.refl _ _⟩
    · have q0 := fun h => hneg (HI.out.1 h)
      clear hneg
      go_enter Tryz.func127, Tryz.ntmps127
      go_wp2_with fail
      clear e2 e3 e4
      go_loopw [7, 8, 9] (fun n i _ wr => ∃ (k : Nat) (z : Int), 1 ≤ k ∧ k ≤ N ∧ 0 ≤ z ∧ n = .int .i64 z ∧ i = .int .i64 (k : Int) ∧ Hid (SpSt s f N w wr k z)) (fun _ i _ _ => N - (intOf i).toNat)
      case atStart => exact ⟨1, _, Nat.le_refl _, hN1, by omega, rfl, rfl, HZ.out, by simp; omega, Below.refl _ _⟩
      case round =>
        clear q0 HZ HI
        obtain ⟨k, z, hk1, hkN, hz0, rfl, rfl, HQ⟩ := hrel
        have hzt := spst_le HQ.out (by omega)
        by_cases hlt : k < N
        · have hl1 : (k : Int) < (N : Int) := by omega
          obtain ⟨p, hp⟩ : ∃ p, p = f + k := ⟨_, rfl⟩
          have hpi : (f : Int) + (k : Int) = (p : Int) := by omega
          have hps : p < s.size := by omega
          have hps2 : (p : Int) < (s.size : Int) := by omega
          obtain ⟨c, hc⟩ : ∃ c, c = s[p]'hps := ⟨_, rfl⟩
          have gp : s[p]'hps = c := hc.symm
          have HCk : Hid (c.toNat = byt s f k) := by
            show _ = _
            subst hp
            rw [hc]; exact byte_at hps
          have hcb : c.toNat < 256 := c.toNat_lt
          clear hc hp
          by_cases hc1 : c.toNat < 128
          · have r1 : (c.toNat : Int) < 128 := by omega
            have HNo : Hid (SpV s f N (-1)) := spv_no fun m h1 h2 h3 => by
              have := (spv_enc h1 h2 h3).2.1 k hk1 hlt
              have := HCk.out
              omega
            go_wp2_with fail
            go_ret
            exact ⟨_, rfl, HNo, HQ.out.below⟩
          · have r1 : ¬ (c.toNat : Int) < 128 := by omega
            by_cases hc2 : 191 < c.toNat
            · have r2 : (191 : Int) < (c.toNat : Int) := by omega
              have HNo : Hid (SpV s f N (-1)) := spv_no fun m h1 h2 h3 => by
                have := (spv_enc h1 h2 h3).2.1 k hk1 hlt
                have := HCk.out
                omega
              go_wp2_with fail
              go_ret
              exact ⟨_, rfl, HNo, HQ.out.below⟩
            · have r2 : ¬ (191 : Int) < (c.toNat : Int) := by omega
              have HNx := Hid.mk (spst_up HQ.out hk1 HCk.out (by omega))
              go_wp2_with fail
              go_roundw
              case rel => exact ⟨k + 1, _, by omega, hlt, by omega, rfl, by go_num, HNx⟩
              case measure => simp [intOf]; omega
        · have hl1 : ¬ (k : Int) < (N : Int) := by omega
          have HV : Hid (z = nv (byt s f) (subN N) (N - 1)) := by
            have := HQ.out.val
            rw [show k = N by omega] at this
            exact this
          have HTold : Hid (∀ m, isR m → (enc m).length = N → stands s f (enc m) → z = (m : Int)) := fun m h1 h2 h3 => by
            rw [HV.out]; exact (spv_enc h1 h2 h3).2.2
          have HBw := Hid.mk HQ.out.below
          cases hv : Lib.validRune z with
          | false =>
            have HIs := Hid.mk (fun u => w_IsRune z u)
            rw [hv] at HIs
            have HNo : Hid (SpV s f N (-1)) := spv_no fun m h1 h2 h3 => by
              have h4 := HTold.out m h1 h2 h3
              rw [h4, valid_isR h1] at hv
              cases hv
            clear hv
            go_wp2_with fail
            refine (HIs.out _).mono ?_
            rintro e w1 ⟨rfl, hw⟩
            obtain rfl := hw.symm
            go_wp2_with fail
            go_ret
            exact ⟨_, rfl, HNo, HBw.out⟩
          | true =>
            have HIs := Hid.mk (fun u => w_IsRune z u)
            rw [hv] at HIs
            obtain ⟨m, rfl, hm⟩ := valid_nat hv
            have hm2 : m ≤ 1114111 := by unfold isR at hm; omega
            have HSz := Hid.mk (fun u => w_Size m u hm2)
            have HM := Hid.mk hm
            obtain ⟨L, hL⟩ : ∃ L, L = (enc m).length := ⟨_, rfl⟩
            rw [← hL] at HSz
            have HL := Hid.mk hL
            clear hv hm hL
            go_wp2_with fail
            refine (HIs.out _).mono ?_
            rintro e w1 ⟨rfl, hw⟩
            obtain rfl := hw.symm
            go_wp2_with fail
            refine (HSz.out _).mono ?_
            rintro e w1 ⟨rfl, hw⟩
            obtain rfl := hw.symm
            by_cases hLN : L = N
            · have r3 : ((L : Int) != (N : Int)) = false := by rw [hLN]; simp
              have HYes : Hid (SpV s f N (m : Int)) := ⟨.inr ⟨m, rfl, HM.out, by rw [← HL.out, hLN]⟩, HTold.out⟩
              clear hLN
              go_wp2_with fail
              go_ret
              exact ⟨_, rfl, HYes, HBw.out⟩
            · have r3 : ((L : Int) != (N : Int)) = true := by rw [bne_iff_ne]; omega
              have HNo : Hid (SpV s f N (-1)) := spv_no fun m' h1 h2 h3 => by
                have h4 := HTold.out m' h1 h2 h3
                have h5 : m = m' := by omega
                subst h5
                exact hLN (HL.out.trans h2)
              clear hLN
              go_wp2_with fail
              go_ret
              exact ⟨_, rfl, HNo, HBw.out⟩
end Go.Proofs.YtapjfocjeligiaaGreatDoor
namespace Go.Proofs.YtapjfocjeligiaaGreatDoor
open Go.RowKit
set_option linter.unusedVariables false
set_option linter.unusedSimpArgs false

/-- no rune's encoding stands there -/
theorem none_there {s : ByteArray} {f : Nat} (hf : f < s.size) (h : ∀ m, isR m → ¬ stands s f (enc m)) : decL (s.data.toList.drop f) = (65533, 1) ∧ strayL (s.data.toList.drop f) = true := by
  rcases stray_or _ (drop_ne hf) with ⟨n, post, hn, hl, _⟩ | h2
  · exact absurd ((stands_iff s f (enc n) (by omega)).2 ⟨post, hl⟩) (h n hn)
  · exact h2
theorem some_there {s : ByteArray} {f m : Nat} (hf : f < s.size) (hm : isR m) (h : stands s f (enc m)) : decL (s.data.toList.drop f) = (m, (enc m).length) ∧ strayL (s.data.toList.drop f) = false := by
  obtain ⟨post, hl⟩ := (stands_iff s f (enc m) (by omega)).1 h
  rw [hl]
  exact ⟨dec_enc m hm post, stray_enc m hm post⟩

/-- the reference's piece -/
def pcV (s : ByteArray) (f : Nat) : Value := .agg #[.int .i64 (f : Int), .int .i64 ((f + (decL (s.data.toList.drop f)).2 : Nat) : Int), .int .i64 ((decL (s.data.toList.drop f)).1 : Int), .bool (strayL (s.data.toList.drop f))]

def pz : Obj := .cells #[.int .i64 0, .int .i64 0, .int .i64 0, .bool false] 152
structure PB (w u : World) : Prop where
  row : u.heap[w.heap.size]? = some pz
  below : Below w.heap.size w u
theorem PB.keep {w u u' : World} (h : PB w u) (hb : Below u.heap.size u u') : PB w u' :=
  ⟨by have hl := (Array.getElem?_eq_some_iff.1 h.row).1
      rw [hb.block _ hl]; exact h.row, h.below.trans (hb.mono h.below.size)⟩
theorem PB.new (w : World) : PB w (w.alloc pz) := ⟨heap_alloc_new w pz, below1 w pz⟩
theorem PB.cell {w u : World} (h : PB w u) (i : Nat) (v : Value) (hv : (#[.int .i64 0, .int .i64 0, .int .i64 0, .bool false] : Array Value)[i]? = some v) : u.cell? ⟨w.heap.size, i, none⟩ = some v := by
  rw [cell_of_row u w.heap.size i _ _ _ h.row]; exact hv
theorem PB.free {w u : World} (h : PB w u) (i : Nat) : u.frozen? ⟨w.heap.size, i, none⟩ = false := frozen_of_row u w.heap.size i _ _ h.row

theorem pfill {u : World} {g : Nat} {x0 x1 x2 x3 a b c d : Value} (c0 : u.cell? ⟨g, 0, none⟩ = some x0) (c1 : u.cell? ⟨g, 1, none⟩ = some x1) (c2 : u.cell? ⟨g, 2, none⟩ = some x2) (c3 : u.cell? ⟨g, 3, none⟩ = some x3) :
    ((((u.setCell ⟨g, 0, none⟩ a).setCell ⟨g, 1, none⟩ b).setCell ⟨g, 2, none⟩ c).setCell ⟨g, 3, none⟩ d).cell? ⟨g, 0, none⟩ = some a ∧
    ((((u.setCell ⟨g, 0, none⟩ a).setCell ⟨g, 1, none⟩ b).setCell ⟨g, 2, none⟩ c).setCell ⟨g, 3, none⟩ d).cell? ⟨g, 1, none⟩ = some b ∧
    ((((u.setCell ⟨g, 0, none⟩ a).setCell ⟨g, 1, none⟩ b).setCell ⟨g, 2, none⟩ c).setCell ⟨g, 3, none⟩ d).cell? ⟨g, 2, none⟩ = some c ∧
    ((((u.setCell ⟨g, 0, none⟩ a).setCell ⟨g, 1, none⟩ b).setCell ⟨g, 2, none⟩ c).setCell ⟨g, 3, none⟩ d).cell? ⟨g, 3, none⟩ = some d := by
  have d1 : (u.setCell ⟨g, 0, none⟩ a).cell? ⟨g, 1, none⟩ = some x1 := by rw [World.cell?_setCell_other _ _ _ _ (by simp)]; exact c1
  have d2 : ((u.setCell ⟨g, 0, none⟩ a).setCell ⟨g, 1, none⟩ b).cell? ⟨g, 2, none⟩ = some x2 := by rw [World.cell?_setCell_other _ _ _ _ (by simp), World.cell?_setCell_other _ _ _ _ (by simp)]; exact c2
  have d3 : (((u.setCell ⟨g, 0, none⟩ a).setCell ⟨g, 1, none⟩ b).setCell ⟨g, 2, none⟩ c).cell? ⟨g, 3, none⟩ = some x3 := by rw [World.cell?_setCell_other _ _ _ _ (by simp), World.cell?_setCell_other _ _ _ _ (by simp), World.cell?_setCell_other _ _ _ _ (by simp)]; exact c3
  refine ⟨?_, ?_, ?_, World.cell?_setCell_same _ _ _ d3⟩
  · rw [World.cell?_setCell_other _ _ _ _ (by simp), World.cell?_setCell_other _ _ _ _ (by simp), World.cell?_setCell_other _ _ _ _ (by simp)]; exact World.cell?_setCell_same _ _ _ c0
  · rw [World.cell?_setCell_other _ _ _ _ (by simp), World.cell?_setCell_other _ _ _ _ (by simp)]; exact World.cell?_setCell_same _ _ _ d1
  · rw [World.cell?_setCell_other _ _ _ _ (by simp)]; exact World.cell?_setCell_same _ _ _ d2
theorem pbelow {w u : World} (h : Below w.heap.size w u) (a b c d : Value) : Below w.heap.size w ((((u.setCell ⟨w.heap.size, 0, none⟩ a).setCell ⟨w.heap.size, 1, none⟩ b).setCell ⟨w.heap.size, 2, none⟩ c).setCell ⟨w.heap.size, 3, none⟩ d) :=
  (((h.setCell (Nat.le_refl _) _).setCell (Nat.le_refl _) _).setCell (Nat.le_refl _) _).setCell (Nat.le_refl _) _

/-- while at looks -/
structure AtSt (s : ByteArray) (f : Nat) (w wr : World) (j : Nat) : Prop where
  box : PB w wr
  no : ∀ m, isR m → (enc m).length < j → ¬ stands s f (enc m)

theorem enc_len4 (m : Nat) : 1 ≤ (enc m).length ∧ (enc m).length ≤ 4 := by
  unfold enc
  split
  · simp
  · split
    · simp
    · split <;> simp

set_option maxRecDepth 100000 in
set_option maxHeartbeats 4000000 in
theorem w_at (s : ByteArray) (f : Nat) (w : World) (hf : f < s.size) (hs : s.size ≤ 4611686018427387900) :
    Calls Tryz.prog 121 #[.string s, .int .i64 (f : Int)] w fun e w' => e = .returned (pcV s f) ∧ Below w.heap.size w w' := by
  have HP0 := Hid.mk (PB.new w)
  unfold pz at HP0
  go_enter Tryz.func121, Tryz.ntmps121
  go_wp2_with fail
  go_loopw [5, 6] (fun k _ wr => ∃ j : Nat, 1 ≤ j ∧ j ≤ 5 ∧ k = .int .i64 (j : Int) ∧ Hid (AtSt s f w wr j)) (fun k _ _ => 5 - (intOf k).toNat)
  case atStart => exact ⟨1, Nat.le_refl _, by omega, rfl, HP0.out, fun m _ h => by have := enc_len4 m; omega⟩
  case round =>
    obtain ⟨j, hj1, hj5, rfl, HQ⟩ := hrel
    by_cases hj4 : j ≤ 4
    · have r1 : (j : Int) ≤ 4 := by omega
      by_cases hin : f + j ≤ s.size
      · have r2 : (f : Int) + (j : Int) ≤ (s.size : Int) := by omega
        have HSp := Hid.mk (w_spelled s f j wr hj1 hj4 hin (by omega))
        go_wp2_with fail
        refine HSp.out.mono ?_
        rintro e w1 ⟨v, rfl, HV, hb1⟩
        have HP1 := Hid.mk (HQ.out.box.keep hb1)
        clear hb1 HSp
        rcases HV.out.some with hv | ⟨m, hv, hm, hl⟩
        · have HN : Hid (AtSt s f w w1 (j + 1)) := ⟨HP1.out, fun m h1 h2 h3 => by
            rcases Nat.lt_or_ge (enc m).length j with g | g
            · exact HQ.out.no m h1 g h3
            · have := HV.out.told m h1 (by omega) h3
              omega⟩
          clear HV
          subst hv
          go_wp2_with fail
          go_roundw
          case rel => exact ⟨j + 1, by omega, by omega, by go_num, HN⟩
          case measure => simp [intOf]; omega
        · subst hv
          have r3 : (0 : Int) ≤ (m : Int) := by omega
          have HE := Hid.mk (w_Encoding (m : Int) w1)
          rw [rn_nat hm] at HE
          have HM := Hid.mk hm
          have HL := Hid.mk hl
          clear hm hl
          go_wp2_with fail
          refine HE.out.mono ?_
          rintro e w2 ⟨g, rfl, hg, HB, hb2⟩
          have HP2 := Hid.mk (HP1.out.keep hb2)
          have HSm := Hid.mk (w_same s f g (enc m) w2 HB.out (by omega) (by omega) (by have := enc_len4 m; omega))
          clear hb2 HE
          go_wp2_with fail
          refine HSm.out.mono ?_
          rintro e w3 ⟨rfl, hb3⟩
          have HP3 := Hid.mk (HP2.out.keep hb3)
          clear hb3 HSm
          by_cases hst : stands s f (enc m)
          · rw [decide_eq_true hst]
            have c0 := HP3.out.cell 0 _ rfl
            have c1 := HP3.out.cell 1 _ rfl
            have c2 := HP3.out.cell 2 _ rfl
            have c3 := HP3.out.cell 3 _ rfl
            have f0 := HP3.out.free 0
            have f1 := HP3.out.free 1
            have f2 := HP3.out.free 2
            have f3 := HP3.out.free 3
            obtain ⟨p0, p1, p2, p3⟩ := pfill (a := .int .i64 (f : Int)) (b := .int .i64 ((f : Int) + (j : Int))) (c := .int .i64 (m : Int)) (d := .bool false) c0 c1 c2 c3
            have HBf := Hid.mk (pbelow HP3.out.below (.int .i64 (f : Int)) (.int .i64 ((f : Int) + (j : Int))) (.int .i64 (m : Int)) (.bool false))
            have HPc : Hid (pcV s f = .agg #[.int .i64 (f : Int), .int .i64 ((f : Int) + (j : Int)), .int .i64 (m : Int), .bool false]) := by
              show _ = _
              obtain ⟨t1, t2⟩ := some_there hf HM.out hst
              unfold pcV
              rw [t1, t2, HL.out]
              simp
            clear hst
            go_wp2_with fail
            refine bodyPost_ret (v := .agg #[.int .i64 (f : Int), .int .i64 ((f : Int) + (j : Int)), .int .i64 (m : Int), .bool false]) (by simp [results, Tryz.results121, go_sem, p0, p1, p2, p3]) rfl ?_
            exact ⟨by rw [HPc.out], HBf.out⟩
          · rw [decide_eq_false hst]
            have HN : Hid (AtSt s f w w3 (j + 1)) := ⟨HP3.out, fun m' h1 h2 h3 => by
              rcases Nat.lt_or_ge (enc m').length j with g | g
              · exact HQ.out.no m' h1 g h3
              · have h4 := HV.out.told m' h1 (by omega) h3
                have h5 : m = m' := by omega
                subst h5
                exact hst h3⟩
            clear hst
            go_wp2_with fail
            go_roundw
            case rel => exact ⟨j + 1, by omega, by omega, by go_num, HN⟩
            case measure => simp [intOf]; omega
      · have r2 : ¬ (f : Int) + (j : Int) ≤ (s.size : Int) := by omega
        have HNo : Hid (∀ m, isR m → ¬ stands s f (enc m)) := fun m h1 h3 => by
          rcases Nat.lt_or_ge (enc m).length j with g | g
          · exact HQ.out.no m h1 g h3
          · have := h3.1; omega
        obtain ⟨HP3⟩ : Nonempty (Hid (PB w wr)) := ⟨HQ.out.box⟩
        have c0 := HP3.out.cell 0 _ rfl
        have c1 := HP3.out.cell 1 _ rfl
        have c2 := HP3.out.cell 2 _ rfl
        have c3 := HP3.out.cell 3 _ rfl
        have f0 := HP3.out.free 0
        have f1 := HP3.out.free 1
        have f2 := HP3.out.free 2
        have f3 := HP3.out.free 3
        obtain ⟨p0, p1, p2, p3⟩ := pfill (a := .int .i64 (f : Int)) (b := .int .i64 ((f : Int) + 1)) (c := .int .i64 65533) (d := .bool true) c0 c1 c2 c3
        have HBf := Hid.mk (pbelow HP3.out.below (.int .i64 (f : Int)) (.int .i64 ((f : Int) + 1)) (.int .i64 65533) (.bool true))
        have HPc : Hid (pcV s f = .agg #[.int .i64 (f : Int), .int .i64 ((f : Int) + 1), .int .i64 65533, .bool true]) := by
          show _ = _
          obtain ⟨t1, t2⟩ := none_there hf HNo.out
          unfold pcV
          rw [t1, t2]
          simp
        go_wp2_with fail
        refine bodyPost_ret (v := .agg #[.int .i64 (f : Int), .int .i64 ((f : Int) + 1), .int .i64 65533, .bool true]) (by simp [results, Tryz.results121, go_sem, p0, p1, p2, p3]) rfl ?_
        exact ⟨by rw [HPc.out], HBf.out⟩
    · have r1 : ¬ (j : Int) ≤ 4 := by omega
      have HNo : Hid (∀ m, isR m → ¬ stands s f (enc m)) := fun m h1 h3 => HQ.out.no m h1 (by have := enc_len4 m; omega) h3
      obtain ⟨HP3⟩ : Nonempty (Hid (PB w wr)) := ⟨HQ.out.box⟩
      have c0 := HP3.out.cell 0 _ rfl
      have c1 := HP3.out.cell 1 _ rfl
      have c2 := HP3.out.cell 2 _ rfl
      have c3 := HP3.out.cell 3 _ rfl
      have f0 := HP3.out.free 0
      have f1 := HP3.out.free 1
      have f2 := HP3.out.free 2
      have f3 := HP3.out.free 3
      obtain ⟨p0, p1, p2, p3⟩ := pfill (a := .int .i64 (f : Int)) (b := .int .i64 ((f : Int) + 1)) (c := .int .i64 65533) (d := .bool true) c0 c1 c2 c3
      have HBf := Hid.mk (pbelow HP3.out.below (.int .i64 (f : Int)) (.int .i64 ((f : Int) + 1)) (.int .i64 65533) (.bool true))
      have HPc : Hid (pcV s f = .agg #[.int .i64 (f : Int), .int .i64 ((f : Int) + 1), .int .i64 65533, .bool true]) := by
        show _ = _
        obtain ⟨t1, t2⟩ := none_there hf HNo.out
        unfold pcV
        rw [t1, t2]
        simp
      go_wp2_with fail
      refine bodyPost_ret (v := .agg #[.int .i64 (f : Int), .int .i64 ((f : Int) + 1), .int .i64 65533, .bool true]) (by simp [results, Tryz.results121, go_sem, p0, p1, p2, p3]) rfl ?_
      exact ⟨by rw [HPc.out], HBf.out⟩
end Go.Proofs.YtapjfocjeligiaaGreatDoor
namespace Go.Proofs.YtapjfocjeligiaaGreatDoor
open Go.RowKit
set_option linter.unusedVariables false
set_option linter.unusedSimpArgs false

theorem Tryz.infoP : (Tryz.prog.info? 152).map (fun i => (i.zero, i.size, i.bytes)) = some (some (.agg #[.int .i64 0, .int .i64 0, .int .i64 0, .bool false]), 4, 32) := by kernel_rfl

theorem sizeL (s : ByteArray) : s.data.toList.length = s.size := by rw [Array.length_toList]; rfl
/-- the cells of the reference's piece -/
def pcC (s : ByteArray) (f : Nat) : List Value := [.int .i64 (f : Int), .int .i64 ((f + (decL (s.data.toList.drop f)).2 : Nat) : Int), .int .i64 ((decL (s.data.toList.drop f)).1 : Int), .bool (strayL (s.data.toList.drop f))]
def prow (s : ByteArray) (n : Nat) : List Value := (List.range n).flatMap fun k => pcC s (off s.data.toList k)
theorem prow_up (s : ByteArray) (n : Nat) : prow s (n + 1) = prow s n ++ pcC s (off s.data.toList n) := by unfold prow; rw [List.range_succ, List.flatMap_append]; simp

theorem new4q (w1 : World) (o : Obj) (a b c d : Value) : ∀ (j : Nat) (u : Value), ([a, b, c, d] : List Value)[j]? = some u → ((w1.alloc o).alloc (.cells #[a, b, c, d] 152)).cell? ((⟨w1.heap.size + 1, 0, none⟩ : Addr).add j) = some u := by
  intro j u hj
  have h := heap_alloc_new (w1.alloc o) (.cells #[a, b, c, d] 152)
  rw [World.size_alloc] at h
  have e : (⟨w1.heap.size + 1, 0, none⟩ : Addr).add j = ⟨w1.heap.size + 1, j, none⟩ := by
    unfold Addr.add; by_cases h0 : j = 0 <;> simp [h0]
  rw [e, cell_of_row _ _ _ _ _ _ h]
  match j, hj with
  | 0, hj => exact hj
  | 1, hj => exact hj
  | 2, hj => exact hj
  | 3, hj => exact hj
  | j + 4, hj => simp at hj
theorem kept4 {w1 w4 : World} {B n : Nat} {e ty : TypeId} {size : Nat} {v : Value} {xs : List Value} {a b c d : Value} {o : Obj} (hown : w1.ownsRow B e size v n xs) (hg : ((w1.alloc (.cells #[a, b, c, d] ty)).alloc o).grownBy w4 v.ownBlock) : w4.cell? ⟨w1.heap.size, 1, none⟩ = some b := by
  have hne : some w1.heap.size ≠ v.ownBlock := by
    rcases hown.2 with ⟨rfl, _⟩ | ⟨g, cap, cur, rfl, _, hb, _⟩
    · simp [Value.ownBlock]
    · have := (Array.getElem?_eq_some_iff.1 hb).1
      simp [Value.ownBlock]; omega
  have h := hg.block w1.heap.size (by simp; omega) hne
  rw [Below.heap_alloc _ _ _ (by simp), heap_alloc_new] at h
  rw [cell_of_row _ _ _ _ _ _ h]; rfl

structure PcSt (s : ByteArray) (w wr : World) (v : Value) (j pos : Nat) : Prop where
  own : wr.ownsRow w.heap.size 152 4 v j (prow s j)
  at_ : pos = off s.data.toList j
  few : j ≤ (runes s.data.toList).length
  below : Below w.heap.size w wr

set_option maxRecDepth 100000 in
set_option maxHeartbeats 4000000 in
theorem w_Pieces (s : ByteArray) (w : World) (hs : s.size ≤ 1099511627776) :
    Calls Tryz.prog 115 #[.string s] w fun e w' => ∃ so sc, e = .returned (.slice so (runes s.data.toList).length sc) ∧ Hid (w'.ownsRow w.heap.size 152 4 (.slice so (runes s.data.toList).length sc) (runes s.data.toList).length (prow s (runes s.data.toList).length)) ∧ Below w.heap.size w w' := by
  obtain ⟨i0, hi0, hz0, hz1, hz2⟩ := info_parts Tryz.infoP
  have hrl := runes_len_le s.data.toList
  rw [sizeL] at hrl
  have HRL := Hid.mk hrl
  clear hrl
  have HS : Hid (PcSt s w (w.alloc (.cells #[] 152)) (.slice (some ⟨w.heap.size, 0, none⟩) 0 0) 0 0) :=
    ⟨⟨rfl, .inr ⟨w.heap.size, 0, #[], rfl, Nat.le_refl _, heap_alloc_new w _, Nat.le_refl _, by unfold maxLen; omega, rfl, rfl⟩⟩, rfl, Nat.zero_le _, below1 w _⟩
  go_enter Tryz.func115, Tryz.ntmps115
  go_wp2_with fail
  go_loopw [3, 4, 5] (fun l b _ wr => ∃ (j pos : Nat) (ao : Option Addr) (cap : Nat), pos ≤ s.size ∧ j ≤ s.size ∧ l = .slice ao j cap ∧ b = .int .i64 (pos : Int) ∧ Hid (PcSt s w wr (.slice ao j cap) j pos)) (fun _ b _ _ => s.size - (intOf b).toNat)
  case atStart => exact ⟨0, 0, _, 0, Nat.zero_le _, Nat.zero_le _, rfl, rfl, HS⟩
  case round =>
    obtain ⟨j, pos, ao, cap, hpos, hj, rfl, rfl, HQ⟩ := hrel
    by_cases hp : pos < s.size
    · have hl1 : (pos : Int) < (s.size : Int) := by omega
      have HAt := Hid.mk (w_at s pos wr hp (by omega))
      unfold pcV at HAt
      have h1 := decL_pos (s.data.toList.drop pos)
      have h2 := step_le hp
      have hdc : pcC s pos = [.int .i64 (pos : Int), .int .i64 ((pos + (decL (s.data.toList.drop pos)).2 : Nat) : Int), .int .i64 ((decL (s.data.toList.drop pos)).1 : Int), .bool (strayL (s.data.toList.drop pos))] := rfl
      have hoq : off s.data.toList (j + 1) = pos + (decL (s.data.toList.drop pos)).2 := by
        have h := off_step s.data.toList j (by rw [← HQ.out.at_]; exact drop_ne hp)
        rw [h, ← HQ.out.at_]
      have hjN : j < (runes s.data.toList).length := by
        rcases Nat.lt_or_ge j (runes s.data.toList).length with g | g
        · exact g
        · have := off_end j s.data.toList g
          rw [← HQ.out.at_, sizeL] at this
          omega
      generalize strayL (s.data.toList.drop pos) = st at HAt hdc
      generalize (decL (s.data.toList.drop pos)).1 = r at HAt hdc
      obtain ⟨q, hq⟩ : ∃ q, q = pos + (decL (s.data.toList.drop pos)).2 := ⟨_, rfl⟩
      rw [← hq] at HAt hdc h2 hoq
      have hq1 : pos + 1 ≤ q := by omega
      have HDC := Hid.mk hdc
      have HOQ := Hid.mk hoq
      have HJN := Hid.mk hjN
      clear h1 hq hdc hoq hjN
      go_wp2_with fail
      refine HAt.out.mono ?_
      rintro e w1 ⟨rfl, hb1⟩
      have hown := own_below' HQ.out.own hb1
      have HB1 := Hid.mk (HQ.out.below.trans (hb1.mono HQ.out.below.size))
      have hsz := HB1.out.size
      clear hb1 HAt
      go_wp2_with (at_builtin; refine wpList_append_own _ rfl (.tmp 14) (.tmp 16) 149 rfl w.heap.size 152 i0 (.agg #[.int .i64 0, .int .i64 0, .int .i64 0, .bool false]) 4 32 Tryz.underlying149 hi0 hz0 hz1 hz2 rfl (by decide) _ _ _ rfl ((hown.alloc _).alloc _) ⟨w1.heap.size + 1, 0, none⟩ 1 1 [.int .i64 (pos : Int), .int .i64 (q : Int), .int .i64 (r : Int), .bool st] rfl rfl (new4q w1 _ _ _ _ _) (by intro u hu; simp at hu; rcases hu with rfl | rfl | rfl | rfl <;> rfl) (by unfold maxLen; omega) (by omega) (by simp; omega) ?_)
      intro v4 w4 hown4 hgrow4 hnn
      obtain ⟨so4, c4, hv4⟩ := own_shape hown4
      subst hv4
      have cQ : w4.cell? ⟨w1.heap.size, 1, none⟩ = some (.int .i64 (q : Int)) := kept4 hown hgrow4
      have HN : Hid (PcSt s w w4 (.slice so4 (j + 1) c4) (j + 1) q) := by
        refine ⟨?_, HOQ.out.symm, HJN.out, ((HB1.out.alloc hsz _).alloc (by simp; omega) _).grown hgrow4 (by simp; omega) (own_base hown)⟩
        rw [prow_up, ← HQ.out.at_, HDC.out]
        exact hown4
      have hj1 : j + 1 ≤ s.size := by have := HRL.out; have := HJN.out; omega
      clear hown4 hgrow4 hnn hown
      go_wp2_with fail
      go_roundw
      case rel => exact ⟨j + 1, q, so4, c4, h2, hj1, rfl, rfl, HN⟩
      case measure => simp [intOf]; omega
    · have hl1 : ¬ (pos : Int) < (s.size : Int) := by omega
      have HJ : Hid (j = (runes s.data.toList).length) := by
        show _ = _
        have a := HQ.out.at_
        have f := HQ.out.few
        have g : ¬ j < (runes s.data.toList).length := by
          intro g
          have := off_lt j s.data.toList g
          rw [sizeL] at this
          omega
        omega
      have HF : Hid (wr.ownsRow w.heap.size 152 4 (.slice ao (runes s.data.toList).length cap) (runes s.data.toList).length (prow s (runes s.data.toList).length)) := by
        rw [← HJ.out]; exact HQ.out.own
      go_wp2_with fail
      go_ret
      exact ⟨ao, cap, by rw [HJ.out]; rfl, HF, HQ.out.below⟩
end Go.Proofs.YtapjfocjeligiaaGreatDoor
namespace Go.Proofs.YtapjfocjeligiaaGreatDoor
open Go.RowKit
set_option linter.unusedVariables false
set_option linter.unusedSimpArgs false

theorem size_lenV (s : ByteArray) : s.data.toList.length = s.size := Array.length_toList
theorem prow_lenV (s : ByteArray) (n : Nat) : (prow s n).length = n * 4 := by
  induction n with
  | zero => rfl
  | succ n ih => rw [prow_up, List.length_append, ih]; simp [pcC]; omega
theorem prow_getV (s : ByteArray) {k N : Nat} (h : k < N) (j : Nat) (hj : j < 4) : (prow s N)[k * 4 + j]? = (pcC s (off s.data.toList k))[j]? := by
  obtain ⟨m, rfl⟩ : ∃ m, N = (k + 1) + m := ⟨N - (k + 1), by omega⟩
  induction m with
  | zero =>
    rw [Nat.add_zero, prow_up, List.getElem?_append_right (by rw [prow_lenV]; omega), prow_lenV]
    congr 1; omega
  | succ m ih =>
    rw [show k + 1 + (m + 1) = k + 1 + m + 1 by omega, prow_up, List.getElem?_append_left (by rw [prow_lenV]; omega)]
    exact ih (by omega)

/-- the pieces' row, as it lies -/
structure PRowV (s : ByteArray) (w : World) (g : Nat) : Prop where
  row : ∃ cur, w.heap[g]? = some (.cells cur 152 (0, 0)) ∧ cur.toList.take ((runes s.data.toList).length * 4) = prow s (runes s.data.toList).length
theorem PRowV.get {s : ByteArray} {w : World} {g k : Nat} (h : PRowV s w g) (hk : k < (runes s.data.toList).length) (j : Nat) (hj : j < 4) : w.cell? ⟨g, k * 4 + j, none⟩ = (pcC s (off s.data.toList k))[j]? := by
  obtain ⟨cur, h1, h2⟩ := h.row
  rw [cell_of_row w g _ _ _ _ h1, ← prow_getV s hk j hj, ← h2, List.getElem?_take, if_pos (by omega), Array.getElem?_toList]

theorem ok_stepV (l : List UInt8) {k : Nat} (hk : k < (runes l).length) : okB (l.drop (off l k)) = if strayL (l.drop (off l k)) = true then false else okB (l.drop (off l (k + 1))) := by
  have hl := off_lt k l hk
  have hne : l.drop (off l k) ≠ [] := by
    intro e
    have := congrArg List.length e
    rw [List.length_drop, List.length_nil] at this
    omega
  have hs := off_step l k hne
  rcases stray_or _ hne with ⟨n, post, hn, he, hst⟩ | ⟨hd, hst⟩
  · rw [if_neg (by rw [hst]; decide)]
    have hd := dec_enc n hn post
    rw [← he] at hd
    have : l.drop (off l (k + 1)) = post := by
      rw [hs, hd, ← List.drop_drop, he]
      exact List.drop_left' rfl
    rw [this, he, ok_enc n hn post]
  · rw [if_pos hst, ok_stray _ hne hd]

theorem rows_ofV {s : ByteArray} {w w1 : World} {so : Option Addr} {sc N : Nat} (hN : N = (runes s.data.toList).length) (ho : w1.ownsRow w.heap.size 152 4 (.slice so N sc) N (prow s N)) : 0 < N → ∃ g, so = some ⟨g, 0, none⟩ ∧ PRowV s w1 g := by
  intro h0
  rcases ho.2 with ⟨_, e⟩ | ⟨g, cap, cur, e, _, hr, _, _, _, ht⟩
  · omega
  · simp only [Value.slice.injEq] at e
    exact ⟨g, e.1, ⟨cur, hr, by rw [← hN]; exact ht⟩⟩

set_option maxRecDepth 100000 in
set_option maxHeartbeats 1600000 in
theorem w_rValidV (s : ByteArray) (w : World) (hs : s.size ≤ 16777216) :
    Calls Tryz.prog 108 #[.string s] w fun e w' => e = .returned (.bool (okB s.data.toList)) ∧ Below w.heap.size w w' := by
  have hrl := runes_len_le s.data.toList
  rw [size_lenV] at hrl
  have HPc := Hid.mk (fun u => w_Pieces s u (by omega))
  obtain ⟨N, hN⟩ : ∃ N, N = (runes s.data.toList).length := ⟨_, rfl⟩
  have HNN := Hid.mk hN
  rw [← hN] at HPc hrl
  clear hN
  go_enter Tryz.func108, Tryz.ntmps108
  go_wp2_with fail
  refine (HPc.out _).mono ?_
  rintro e w1 ⟨so, sc, rfl, ho, hb1⟩
  have HB := Hid.mk hb1
  have HR := Hid.mk (rows_ofV HNN.out ho.out)
  clear hb1 ho HPc
  go_wp2_with fail
  go_loopw [4] (fun i wr => ∃ k : Nat, k ≤ N ∧ i = .int .i64 (k : Int) ∧ wr = w1 ∧ Hid (okB s.data.toList = okB (s.data.toList.drop (off s.data.toList k)))) (fun i _ => N - (intOf i).toNat)
  case atStart => exact ⟨0, Nat.zero_le _, rfl, rfl, rfl⟩
  case round =>
    obtain ⟨k, hk, rfl, rfl, HQ⟩ := hrel
    by_cases hlt : k < N
    · have hl1 : (k : Int) < (N : Int) := by omega
      have hkN : k < (runes s.data.toList).length := by rw [← HNN.out]; exact hlt
      obtain ⟨g, hg, hpr⟩ := HR.out (by omega)
      subst hg
      have c3 : wr.cell? ⟨g, k * 4 + 3, none⟩ = some (.bool (strayL (s.data.toList.drop (off s.data.toList k)))) := hpr.get hkN 3 (by omega)
      have HS := Hid.mk (ok_stepV s.data.toList hkN)
      cases hst : strayL (s.data.toList.drop (off s.data.toList k)) with
      | true =>
        rw [hst] at c3 HS
        have HF : Hid (okB s.data.toList = false) := by rw [HQ.out, HS.out]; rfl
        clear hpr hkN hst
        go_wp2_with fail
        go_ret
        exact ⟨by rw [HF.out]; rfl, HB.out⟩
      | false =>
        rw [hst] at c3 HS
        have HN : Hid (okB s.data.toList = okB (s.data.toList.drop (off s.data.toList (k + 1)))) := by
          rw [HQ.out, HS.out]; rfl
        clear hpr hkN hst
        go_wp2_with fail
        go_roundw
        case rel => exact ⟨k + 1, by omega, by go_num, trivial, HN⟩
        case measure => simp [intOf]; omega
    · have hl1 : ¬ (k : Int) < (N : Int) := by omega
      have HF : Hid (okB s.data.toList = true) := by
        show _ = _
        rw [HQ.out, off_end k s.data.toList (by rw [← HNN.out]; omega), List.drop_length]
        rfl
      go_wp2_with fail
      go_ret
      exact ⟨by rw [HF.out]; rfl, HB.out⟩

end Go.Proofs.YtapjfocjeligiaaGreatDoor
namespace Go.Proofs.YtapjfocjeligiaaGreatDoor
open Go.RowKit Go.Shelf Go.Sort
set_option linter.unusedVariables false
set_option linter.unusedSimpArgs false
attribute [local go_sem] Oper.semAt_some

theorem w_5digD (x : Int) (w : World) (h1 : 48 ≤ x) (h2 : x ≤ 57) : Calls Tryz.prog 106 #[.int .u8 x] w fun e w' => e = .returned (.bool true) ∧ w' = w := by
  go_enter Tryz.func106, Tryz.ntmps106
  go_wp2_with fail
  go_ret
  exact ⟨by first | rfl | simp [*], rfl⟩
theorem w_5letD (x : Int) (w : World) (h1 : 48 ≤ x) (h2 : x ≤ 57) : Calls Tryz.prog 114 #[.int .u8 x] w fun e w' => e = .returned (.bool false) ∧ w' = w := by
  have a1 : ¬ 97 ≤ x := by omega
  have a2 : ¬ 65 ≤ x := by omega
  have a3 : ¬ x = 95 := by omega
  clear h1 h2
  go_enter Tryz.func114, Tryz.ntmps114
  go_wp2_with fail
  go_ret
  exact ⟨by first | rfl | simp [*], rfl⟩

set_option maxRecDepth 100000 in
set_option maxHeartbeats 3200000 in
theorem w_5numD (s : ByteArray) (w : World) (h0 : 0 < s.size) (hs : s.size ≤ 1099511627776) (hd : ∀ q (h : q < s.size), 48 ≤ ((s[q].toNat : Nat) : Int) ∧ ((s[q].toNat : Nat) : Int) ≤ 57) (hz : ((s[0].toNat : Nat) : Int) = 48 → s.size = 1) :
    Calls Tryz.prog 107 #[.string s, .int .i64 0] w fun e w' => e = .returned (.agg #[.int .u8 0, .int .i64 0, .int .i64 (s.size : Int), .string s, .int .i64 0]) ∧ Below w.heap.size w w' := by
  have HD0 := Hid.mk hd
  obtain ⟨x, hxe⟩ : ∃ x, x = s := ⟨s, rfl⟩
  have HXE := Hid.mk hxe
  have hx : s.extract 0 s.size = x := by rw [hxe]; simp
  have hxp : 0 < x.size := by rw [hxe]; exact h0
  have hxm : x.size ≤ 1099511627776 := by rw [hxe]; exact hs
  have HD : Hid (∀ q (h : q < x.size), 48 ≤ ((x[q].toNat : Nat) : Int) ∧ ((x[q].toNat : Nat) : Int) ≤ 57) := (by show ∀ _, _; subst hxe; exact hd)
  have HZ : Hid (((x[0].toNat : Nat) : Int) = 48 → x.size = 1) := (by show _ → _; subst hxe; exact hz)
  have hn : ¬ ((x[0].toNat : Nat) : Int) = 45 := by have := HD.out 0 hxp; omega
  have hi2 : (0 : Int) ≤ (s.size : Int) := by omega
  have hxz : (0 : Int) < (x.size : Int) := by omega
  clear hd hz hxe
  go_enter Tryz.func107, Tryz.ntmps107
  go_wp2_with fail
  go_loopw [5] (fun a wr => ∃ q : Nat, q ≤ s.size ∧ a = .int .i64 (q : Int) ∧ wr = w.alloc (.cells #[.int .u8 0, .int .i64 0, .int .i64 0, .string ⟨#[]⟩, .int .i64 0] 143)) (fun a _ => s.size - (intOf a).toNat)
  case atStart => exact ⟨0, by omega, rfl, rfl⟩
  case round =>
    obtain ⟨q, hq, rfl, rfl⟩ := hrel
    by_cases hlt : q < s.size
    · have hi1 : (q : Int) < (s.size : Int) := by omega
      have hq0 : (0 : Int) ≤ (q : Int) := by omega
      have hc := HD0.out q hlt
      have HLE := Hid.mk (fun u => w_5letD _ u hc.1 hc.2)
      have HDG := Hid.mk (fun u => w_5digD _ u hc.1 hc.2)
      clear hc hx hn
      go_wp2_with fail
      refine (HLE.out _).mono ?_
      rintro e w1 ⟨rfl, rfl⟩
      go_wp2_with fail
      refine (HDG.out _).mono ?_
      rintro e w1 ⟨rfl, rfl⟩
      go_wp2_with fail
      go_roundw
      case rel => exact ⟨q + 1, by omega, by go_num, by first | rfl | trivial⟩
      case measure => simp [intOf]; omega
    · obtain rfl : q = s.size := by omega
      have hl1 : ¬ (s.size : Int) < (s.size : Int) := by omega
      by_cases h48 : ((x[0].toNat : Nat) : Int) = 48
      · have h1s : x.size = 1 := HZ.out h48
        have HX1 := Hid.mk h1s
        have hds : (x.size : Int) = 1 := by omega
        have hdsb : ((x.size : Int) == 1) = true := by rw [hds]; rfl
        have HS48 : Hid (x = ⟨#[48]⟩) := by
          show _ = _
          clear HD0 HXE hx HD HZ hn hdsb hds
          obtain ⟨a⟩ := x
          obtain ⟨l⟩ := a
          match l, h1s with
          | [c], _ =>
            have e1 : ((c.toNat : Nat) : Int) = 48 := h48
            have e2 : c = 48 := UInt8.toNat_inj.1 (by show c.toNat = 48; omega)
            rw [e2]
        have hzb : (x.toList == [48]) = true := by rw [HS48.out, Lib.toList_data]; rfl
        clear h1s
        go_wp2_with fail
        go_loopw [8, 9] (fun r i wr => ∃ k : Nat, k ≤ x.size ∧ r = .bool true ∧ i = .int .i64 (k : Int) ∧ wr = w.alloc (.cells #[.int .u8 0, .int .i64 0, .int .i64 0, .string ⟨#[]⟩, .int .i64 0] 143)) (fun _ i _ => x.size - (intOf i).toNat)
        case atStart => exact ⟨0, Nat.zero_le _, by first | rfl | simp [*], rfl, rfl⟩
        case round =>
          obtain ⟨k, hk, rfl, rfl, rfl⟩ := hrel
          by_cases hkl : k < x.size
          · have hj1 : (k : Int) < (x.size : Int) := by omega
            have hj0 : (0 : Int) ≤ (k : Int) := by omega
            have hc := HD.out k hkl
            have HDG := Hid.mk (fun u => w_5digD _ u hc.1 hc.2)
            clear hc hds hdsb h48
            go_wp2_with fail
            refine (HDG.out _).mono ?_
            rintro e w1 ⟨rfl, rfl⟩
            go_wp2_with fail
            go_roundw
            case rel => exact ⟨k + 1, by omega, rfl, by go_num, by first | rfl | trivial⟩
            case measure => simp [intOf]; omega
          · obtain rfl : k = x.size := by omega
            have hj1 : ¬ (x.size : Int) < (x.size : Int) := by omega
            go_wp2_with fail
            (try simp only [Exit.inBlock, Exit.then])
            refine bodyPost_ret (v := .agg #[.int .u8 0, .int .i64 0, .int .i64 (s.size : Int), .string ⟨#[48]⟩, .int .i64 0]) (by simp [results, Tryz.results107, go_sem]) rfl ?_
            exact ⟨by rw [← HXE.out, HS48.out], below1 w _⟩
      · have hcb : (((x[0].toNat : Nat) : Int) == 48) = false := by rw [beq_eq_false_iff_ne]; exact h48
        have hzb : (x.toList == [48]) = false := by
          rw [beq_eq_false_iff_ne, Lib.toList_data]
          intro e
          apply h48
          clear HD0 HXE hx HD HZ hn h48 hcb
          obtain ⟨a⟩ := x
          obtain ⟨l⟩ := a
          have e2 : l = [48] := e
          subst e2
          rfl
        go_wp2_with fail
        go_loopw [8, 9] (fun r i wr => ∃ k : Nat, k ≤ x.size ∧ r = .bool true ∧ i = .int .i64 (k : Int) ∧ wr = w.alloc (.cells #[.int .u8 0, .int .i64 0, .int .i64 0, .string ⟨#[]⟩, .int .i64 0] 143)) (fun _ i _ => x.size - (intOf i).toNat)
        case atStart => exact ⟨0, Nat.zero_le _, by first | rfl | simp [*], rfl, rfl⟩
        case round =>
          obtain ⟨k, hk, rfl, rfl, rfl⟩ := hrel
          by_cases hkl : k < x.size
          · have hj1 : (k : Int) < (x.size : Int) := by omega
            have hj0 : (0 : Int) ≤ (k : Int) := by omega
            have hc := HD.out k hkl
            have HDG := Hid.mk (fun u => w_5digD _ u hc.1 hc.2)
            clear hc hcb
            go_wp2_with fail
            refine (HDG.out _).mono ?_
            rintro e w1 ⟨rfl, rfl⟩
            go_wp2_with fail
            go_roundw
            case rel => exact ⟨k + 1, by omega, rfl, by go_num, by first | rfl | trivial⟩
            case measure => simp [intOf]; omega
          · obtain rfl : k = x.size := by omega
            have hj1 : ¬ (x.size : Int) < (x.size : Int) := by omega
            go_wp2_with fail
            (try simp only [Exit.inBlock, Exit.then])
            refine bodyPost_ret (v := .agg #[.int .u8 0, .int .i64 0, .int .i64 (s.size : Int), .string x, .int .i64 0]) (by simp [results, Tryz.results107, go_sem]) rfl ?_
            exact ⟨by rw [HXE.out], below1 w _⟩
end Go.Proofs.YtapjfocjeligiaaGreatDoor
namespace Go.Proofs.YtapjfocjeligiaaGreatDoor
open Go.RowKit Go.Shelf Go.Sort
set_option linter.unusedVariables false
set_option linter.unusedSimpArgs false
attribute [local go_sem] Oper.semAt_some

theorem frzM {w : World} {B j : Nat} {cs : Array Value} {t : TypeId} (h : w.heap[B]? = some (.cells cs t (0, 0))) : w.frozen? ⟨B, j, none⟩ = false := by simp [World.frozen?, h]
theorem rsetM {u : World} {B i : Nat} {c : Array Value} {t : TypeId} (v : Value) (h : u.heap[B]? = some (.cells c t (0, 0))) : (u.setCell ⟨B, i, none⟩ v).heap[B]? = some (.cells (c.setIfInBounds i v) t (0, 0)) := by
  show (u.heap.modify B _)[B]? = _
  rw [Array.getElem?_modify, if_pos rfl, h]; rfl
theorem vboxM {w : World} {B : Nat} {t : TypeId} {y0 y1 y2 y3 y4 : Value} (h : w.heap[B]? = some (.cells #[y0, y1, y2, y3, y4] t (0, 0))) :
    w.cell? ⟨B, 0, none⟩ = some y0 ∧ w.cell? ⟨B, 1, none⟩ = some y1 ∧ w.cell? ⟨B, 2, none⟩ = some y2 ∧ w.cell? ⟨B, 3, none⟩ = some y3 ∧ w.cell? ⟨B, 4, none⟩ = some y4 ∧ w.frozen? ⟨B, 0, none⟩ = false ∧ w.frozen? ⟨B, 1, none⟩ = false ∧ w.frozen? ⟨B, 2, none⟩ = false ∧ w.frozen? ⟨B, 3, none⟩ = false ∧ w.frozen? ⟨B, 4, none⟩ = false := by
  refine ⟨?_, ?_, ?_, ?_, ?_, frzM h, frzM h, frzM h, frzM h, frzM h⟩ <;> rw [cell_of_row _ _ _ _ _ _ h] <;> rfl
theorem rboxM (w : World) (B : Nat) (t : TypeId) (y0 y1 y2 y3 y4 a0 a1 a2 a3 a4 : Value) (h : w.heap[B]? = some (.cells #[y0, y1, y2, y3, y4] t (0, 0))) (wz : World) (hz : wz = ((((w.setCell ⟨B, 0, none⟩ a0).setCell ⟨B, 1, none⟩ a1).setCell ⟨B, 2, none⟩ a2).setCell ⟨B, 3, none⟩ a3).setCell ⟨B, 4, none⟩ a4) :
    wz.heap[B]? = some (.cells #[a0, a1, a2, a3, a4] t (0, 0)) ∧ (∀ b, b ≠ B → wz.heap[b]? = w.heap[b]?) ∧ wz.heap.size = w.heap.size := by
  subst hz
  refine ⟨rsetM (i := 4) a4 (rsetM (i := 3) a3 (rsetM (i := 2) a2 (rsetM (i := 1) a1 (rsetM (i := 0) a0 h)))), fun b hb => ?_, by simp⟩
  rw [Below.heap_setCell _ _ _ _ hb, Below.heap_setCell _ _ _ _ hb, Below.heap_setCell _ _ _ _ hb, Below.heap_setCell _ _ _ _ hb, Below.heap_setCell _ _ _ _ hb]

set_option maxRecDepth 100000 in
set_option maxHeartbeats 3200000 in
theorem w_5RightT (t : ByteArray) (ht : okB t.data.toList = true) (hs : t.size ≤ 16777216) (d : Nat) (io ko : Option Addr) (ic kc : Nat) (w : World) : Calls Tryz.prog 98 #[.agg #[.int .i64 4, .string ⟨#[]⟩, .string t, .slice io 0 ic, .slice ko 0 kc], .int .i64 (d : Int)] w fun e w' => e = .returned (.bool true) ∧ Below w.heap.size w w' := by
  have HVd := Hid.mk (fun (u : World) => w_rValidV t u hs)
  rw [show okB (t : ByteArray).data.toList = true from ht] at HVd
  have hn0 := heap_alloc_new w (.cells #[.int .i64 4, .string ⟨#[]⟩, .string t, .slice io 0 ic, .slice ko 0 kc] 37)
  have HN0 := Hid.mk hn0
  clear hn0
  go_enter Tryz.func98, Tryz.ntmps98
  go_wp2_with fail
  all_goals
    refine (HVd.out _).mono ?_
    rintro e w2 ⟨rfl, hb2⟩
    have HBx : Hid (Below w.heap.size w w2 ∧ w2.heap[w.heap.size]? = some (.cells #[.int .i64 4, .string ⟨#[]⟩, .string t, .slice io 0 ic, .slice ko 0 kc] 37 (0, 0))) := ⟨(below1 w _).trans (hb2.mono (by simp)), (hb2.block _ (by simp)).trans HN0.out⟩
    obtain ⟨b0, b1, b2, b3, b4, _, _, _, _, _⟩ := vboxM HBx.out.2
    clear hb2
    go_wp2_with fail
    go_loopw [6] (fun i wr => i = .int .i64 0 ∧ Hid (Below w.heap.size w wr ∧ wr.heap[w.heap.size]? = some (.cells #[.int .i64 4, .string ⟨#[]⟩, .string t, .slice io 0 ic, .slice ko 0 kc] 37 (0, 0)))) (fun i _ => 0)
    case atStart => exact ⟨rfl, HBx⟩
    case round =>
      clear HBx
      obtain ⟨rfl, HBx⟩ := hrel
      obtain ⟨b0, b1, b2, b3, b4, _, _, _, _, _⟩ := vboxM HBx.out.2
      go_wp2_with fail
      go_loopw [7] (fun i wr => i = .int .i64 0 ∧ Hid (Below w.heap.size w wr ∧ wr.heap[w.heap.size]? = some (.cells #[.int .i64 4, .string ⟨#[]⟩, .string t, .slice io 0 ic, .slice ko 0 kc] 37 (0, 0)))) (fun i _ => 0)
      case atStart => exact ⟨rfl, HBx⟩
      case round =>
        clear HBx b0 b1 b2 b3 b4
        obtain ⟨rfl, HBx⟩ := hrel
        obtain ⟨b0, b1, b2, b3, b4, _, _, _, _, _⟩ := vboxM HBx.out.2
        go_wp2_with fail
        go_ret
        exact ⟨rfl, HBx.out.1⟩

set_option maxRecDepth 100000 in
set_option maxHeartbeats 3200000 in
theorem w_5RightN (n : ByteArray) (h0 : 0 < n.size) (hs : n.size ≤ 16777216) (hd : ∀ q (h : q < n.size), 48 ≤ ((n[q].toNat : Nat) : Int) ∧ ((n[q].toNat : Nat) : Int) ≤ 57) (hz : ((n[0].toNat : Nat) : Int) = 48 → n.size = 1) (d : Nat) (io ko : Option Addr) (ic kc : Nat) (w : World) : Calls Tryz.prog 98 #[.agg #[.int .i64 3, .string n, .string ⟨#[]⟩, .slice io 0 ic, .slice ko 0 kc], .int .i64 (d : Int)] w fun e w' => e = .returned (.bool true) ∧ Below w.heap.size w w' := by
  have HNm := Hid.mk (fun (u : World) => w_5numD n u h0 (by omega) hd hz)
  have HDg := Hid.mk (fun (u : World) => w_5digD _ u (hd 0 h0).1 (hd 0 h0).2)
  have g0 : (0 : Int) < (n.size : Int) := by omega
  have gnp : ¬ n.toList = ([] : List UInt8) := by
    intro e
    have e2 : n.data.toList = [] := by rw [← e, Lib.toList_data]
    have h1 : n.data.toList.length = n.size := Array.length_toList
    rw [e2] at h1
    have h2 : 0 = n.size := h1
    omega
  have gem : n.toList.isEmpty = false := by
    cases h : n.toList with
    | nil => exact absurd h gnp
    | cons a l => rfl
  clear hd hz
  have HVd := Hid.mk (fun (u : World) => w_rValidV ⟨#[]⟩ u (by decide))
  rw [show okB (⟨#[]⟩ : ByteArray).data.toList = true from (by decide)] at HVd
  have hn0 := heap_alloc_new w (.cells #[.int .i64 3, .string n, .string ⟨#[]⟩, .slice io 0 ic, .slice ko 0 kc] 37)
  have HN0 := Hid.mk hn0
  clear hn0
  go_enter Tryz.func98, Tryz.ntmps98
  go_wp2_with fail
  have HP0 : Hid (((w.alloc (.cells #[.int .i64 3, .string n, .string ⟨#[]⟩, .slice io 0 ic, .slice ko 0 kc] 37)).alloc (.cells #[.int .u8 0, .int .i64 0, .int .i64 0, .string ⟨#[]⟩, .int .i64 42] 143)).heap[w.heap.size + 1]? = some (.cells #[.int .u8 0, .int .i64 0, .int .i64 0, .string ⟨#[]⟩, .int .i64 42] 143 (0, 0))) := by
    show _ = _
    have h := heap_alloc_new (w.alloc (.cells #[.int .i64 3, .string n, .string ⟨#[]⟩, .slice io 0 ic, .slice ko 0 kc] 37)) (.cells #[.int .u8 0, .int .i64 0, .int .i64 0, .string ⟨#[]⟩, .int .i64 42] 143)
    rw [World.size_alloc] at h
    exact h
  have HV0 : Hid (((w.alloc (.cells #[.int .i64 3, .string n, .string ⟨#[]⟩, .slice io 0 ic, .slice ko 0 kc] 37)).alloc (.cells #[.int .u8 0, .int .i64 0, .int .i64 0, .string ⟨#[]⟩, .int .i64 42] 143)).heap[w.heap.size]? = some (.cells #[.int .i64 3, .string n, .string ⟨#[]⟩, .slice io 0 ic, .slice ko 0 kc] 37 (0, 0))) := by
    show _ = _
    rw [Below.heap_alloc _ _ _ (by simp)]
    exact HN0.out
  refine (HDg.out _).mono ?_
  rintro e w1 ⟨rfl, rfl⟩
  go_wp2_with fail
  refine (HNm.out _).mono ?_
  rintro e w3 ⟨rfl, hb3⟩
  have hpb := (hb3.block (w.heap.size + 1) (by simp)).trans HP0.out
  have hvb := (hb3.block w.heap.size (by simp; omega)).trans HV0.out
  obtain ⟨p0, p1, p2, p3, p4, pf0, pf1, pf2, pf3, pf4⟩ := vboxM hpb
  have hbw : Below w.heap.size w w3 := ((below1 w _).alloc (by simp) _).trans (hb3.mono (by simp; omega))
  have hz3 : w.heap.size + 1 < w3.heap.size := (Array.getElem?_eq_some_iff.1 hpb).1
  have HH := Hid.mk (And.intro hpb (And.intro hvb hbw))
  clear hb3 hpb hvb hbw
  obtain ⟨W4, hW4⟩ : ∃ W4, (((((w3.setCell ⟨w.heap.size + 1, 0, none⟩ (.int .u8 0)).setCell ⟨w.heap.size + 1, 1, none⟩ (.int .i64 0)).setCell ⟨w.heap.size + 1, 2, none⟩ (.int .i64 (n.size : Int))).setCell ⟨w.heap.size + 1, 3, none⟩ (.string n)).setCell ⟨w.heap.size + 1, 4, none⟩ (.int .i64 0)) = W4 := ⟨_, rfl⟩
  obtain ⟨e5, k5, s5⟩ := rboxM w3 _ _ _ _ _ _ _ _ _ _ _ _ HH.out.1 W4 hW4.symm
  have hvb4 := (k5 w.heap.size (by omega)).trans HH.out.2.1
  obtain ⟨r0, r1, r2, r3, r4, _, _, _, _, _⟩ := vboxM e5
  obtain ⟨v0, v1, v2, v3, v4, _, _, _, _, _⟩ := vboxM hvb4
  have hbw4 : Below w.heap.size w W4 := by
    rw [← hW4]
    exact ((((HH.out.2.2.setCell (p := ⟨w.heap.size + 1, 0, none⟩) (by show w.heap.size ≤ w.heap.size + 1; omega) _).setCell (p := ⟨w.heap.size + 1, 1, none⟩) (by show w.heap.size ≤ w.heap.size + 1; omega) _).setCell (p := ⟨w.heap.size + 1, 2, none⟩) (by show w.heap.size ≤ w.heap.size + 1; omega) _).setCell (p := ⟨w.heap.size + 1, 3, none⟩) (by show w.heap.size ≤ w.heap.size + 1; omega) _).setCell (p := ⟨w.heap.size + 1, 4, none⟩) (by show w.heap.size ≤ w.heap.size + 1; omega) _
  have hl4 : w.heap.size + 1 < W4.heap.size := by omega
  have HH4 := Hid.mk (And.intro hvb4 hbw4)
  clear e5 k5 s5 hvb4 hbw4
  go_wp2_with fail
  refine (HVd.out _).mono ?_
  rintro e w2 ⟨rfl, hb2⟩
  have HBx : Hid (Below w.heap.size w w2 ∧ w2.heap[w.heap.size]? = some (.cells #[.int .i64 3, .string n, .string ⟨#[]⟩, .slice io 0 ic, .slice ko 0 kc] 37 (0, 0))) := ⟨HH4.out.2.trans (hb2.mono HH4.out.2.size), (hb2.block _ (by omega)).trans HH4.out.1⟩
  obtain ⟨b0, b1, b2, b3, b4, _, _, _, _, _⟩ := vboxM HBx.out.2
  clear hb2 p0 p1 p2 p3 p4 pf0 pf1 pf2 pf3 pf4 hW4 r0 r1 r2 r3 r4 v0 v1 v2 v3 v4
  go_wp2_with fail
  go_loopw [6] (fun i wr => i = .int .i64 0 ∧ Hid (Below w.heap.size w wr ∧ wr.heap[w.heap.size]? = some (.cells #[.int .i64 3, .string n, .string ⟨#[]⟩, .slice io 0 ic, .slice ko 0 kc] 37 (0, 0)))) (fun i _ => 0)
  case atStart => exact ⟨rfl, HBx⟩
  case round =>
    clear HBx
    obtain ⟨rfl, HBx⟩ := hrel
    obtain ⟨b0, b1, b2, b3, b4, _, _, _, _, _⟩ := vboxM HBx.out.2
    go_wp2_with fail
    go_loopw [7] (fun i wr => i = .int .i64 0 ∧ Hid (Below w.heap.size w wr ∧ wr.heap[w.heap.size]? = some (.cells #[.int .i64 3, .string n, .string ⟨#[]⟩, .slice io 0 ic, .slice ko 0 kc] 37 (0, 0)))) (fun i _ => 0)
    case atStart => exact ⟨rfl, HBx⟩
    case round =>
      clear HBx b0 b1 b2 b3 b4
      obtain ⟨rfl, HBx⟩ := hrel
      obtain ⟨b0, b1, b2, b3, b4, _, _, _, _, _⟩ := vboxM HBx.out.2
      go_wp2_with fail
      go_ret
      exact ⟨rfl, HBx.out.1⟩

end Go.Proofs.YtapjfocjeligiaaGreatDoor
namespace Go.Proofs.YtapjfocjeligiaaGreatDoor
open Go.RowKit Go.Shelf Go.Sort
set_option linter.unusedVariables false
set_option linter.unusedSimpArgs false
attribute [local go_sem] Oper.semAt_some

set_option maxRecDepth 100000 in
set_option maxHeartbeats 3200000 in
theorem w_8Right (kd : Int) (nm tx : ByteArray) (io ko : Option Addr) (ic kc : Nat) (w : World) (hR : ∀ u, Calls Tryz.prog 98 #[.agg #[.int .i64 kd, .string nm, .string tx, .slice io 0 ic, .slice ko 0 kc], .int .i64 1073741824] u fun e w' => e = .returned (.bool true) ∧ Below u.heap.size u w') :
    Calls Tryz.prog 72 #[.agg #[.int .i64 kd, .string nm, .string tx, .slice io 0 ic, .slice ko 0 kc]] w fun e w' => e = .returned (.bool true) ∧ Below w.heap.size w w' := by
  have HR := Hid.mk hR
  clear hR
  go_enter Tryz.func72, Tryz.ntmps72
  go_wp2_with fail
  refine (HR.out _).mono ?_
  rintro e w1 ⟨rfl, hb1⟩
  have HB := Hid.mk hb1
  clear hb1
  go_wp2_with fail
  go_ret
  exact ⟨rfl, by first | exact HB.out | exact (below1 w _).trans (HB.out.mono (by simp))⟩
-- GEN
theorem box2 (w : World) (o1 o2 : Obj) : ((w.alloc o1).alloc o2).heap[w.heap.size + 1]? = some o2 := by
  have h := heap_alloc_new (w.alloc o1) o2
  rw [World.size_alloc] at h
  exact h

set_option maxRecDepth 100000 in
set_option maxHeartbeats 3200000 in
theorem w_8IsKeyT (nm tx : ByteArray) (io ko : Option Addr) (ic kc : Nat) (w : World) (hR : ∀ u, Calls Tryz.prog 72 #[.agg #[.int .i64 4, .string nm, .string tx, .slice io 0 ic, .slice ko 0 kc]] u fun e w' => e = .returned (.bool true) ∧ Below u.heap.size u w') :
    Calls Tryz.prog 48 #[.agg #[.int .i64 4, .string nm, .string tx, .slice io 0 ic, .slice ko 0 kc]] w fun e w' => e = .returned (.bool true) ∧ Below w.heap.size w w' := by
  have HR := Hid.mk hR
  clear hR
  go_enter Tryz.func48, Tryz.ntmps48
  go_wp2_with fail
  all_goals
    refine (HR.out _).mono ?_
    rintro e w1 ⟨rfl, hb1⟩
    have HB := Hid.mk hb1
    clear hb1
    go_wp2_with fail
    go_ret
    exact ⟨rfl, by first | exact HB.out | exact (below1 w _).trans (HB.out.mono (by simp))⟩

set_option maxRecDepth 100000 in
set_option maxHeartbeats 3200000 in
theorem w_8IsKeyN (nm tx : ByteArray) (io ko : Option Addr) (ic kc : Nat) (w : World) (hR : ∀ u, Calls Tryz.prog 72 #[.agg #[.int .i64 3, .string nm, .string tx, .slice io 0 ic, .slice ko 0 kc]] u fun e w' => e = .returned (.bool true) ∧ Below u.heap.size u w') :
    Calls Tryz.prog 48 #[.agg #[.int .i64 3, .string nm, .string tx, .slice io 0 ic, .slice ko 0 kc]] w fun e w' => e = .returned (.bool true) ∧ Below w.heap.size w w' := by
  have HR := Hid.mk hR
  clear hR
  go_enter Tryz.func48, Tryz.ntmps48
  go_wp2_with fail
  all_goals
    refine (HR.out _).mono ?_
    rintro e w1 ⟨rfl, hb1⟩
    have HB := Hid.mk hb1
    clear hb1
    go_wp2_with fail
    go_ret
    exact ⟨rfl, by first | exact HB.out | exact (below1 w _).trans (HB.out.mono (by simp))⟩

set_option maxRecDepth 100000 in
set_option maxHeartbeats 3200000 in
theorem w_8FitsT (vn vx : ByteArray) (vo uo : Option Addr) (NI NK vc uc : Nat) (nm tx : ByteArray) (io ko : Option Addr) (ic kc : Nat) (w : World) (hR : ∀ u, Calls Tryz.prog 48 #[.agg #[.int .i64 4, .string nm, .string tx, .slice io 0 ic, .slice ko 0 kc]] u fun e w' => e = .returned (.bool true) ∧ Below u.heap.size u w') :
    Calls Tryz.prog 31 #[.agg #[.int .i64 6, .string vn, .string vx, .slice vo NI vc, .slice uo NK uc], .agg #[.int .i64 4, .string nm, .string tx, .slice io 0 ic, .slice ko 0 kc]] w fun e w' => e = .returned (.bool true) ∧ Below w.heap.size w w' := by
  have HR := Hid.mk hR
  clear hR
  have b0 := Hid.mk (vboxM (heap_alloc_new w (.cells #[.int .i64 6, .string vn, .string vx, .slice vo NI vc, .slice uo NK uc] 37)))
  go_enter Tryz.func31, Tryz.ntmps31
  go_wp2_with fail
  refine (HR.out _).mono ?_
  rintro e w1 ⟨rfl, hb1⟩
  have hv := (hb1.block w.heap.size (by simp; omega)).trans ((Below.heap_alloc _ _ _ (by simp)).trans (heap_alloc_new w (.cells #[.int .i64 6, .string vn, .string vx, .slice vo NI vc, .slice uo NK uc] 37)))
  have hk := (hb1.block (w.heap.size + 1) (by simp)).trans (box2 w _ (.cells #[.int .i64 4, .string nm, .string tx, .slice io 0 ic, .slice ko 0 kc] 37))
  obtain ⟨v0, v1, v2, v3, v4, _, _, _, _, _⟩ := vboxM hv
  obtain ⟨k0, k1, k2, k3, k4, _, _, _, _, _⟩ := vboxM hk
  have HB : Hid (Below w.heap.size w w1) := ((below1 w _).alloc (by simp) _).trans (hb1.mono (by simp; omega))
  clear hb1 hv hk
  go_wp2_with fail
  all_goals
    go_ret
    exact ⟨rfl, HB.out⟩

set_option maxRecDepth 100000 in
set_option maxHeartbeats 3200000 in
theorem w_8FitsN (vn vx : ByteArray) (vo uo : Option Addr) (NI NK vc uc : Nat) (nm tx : ByteArray) (io ko : Option Addr) (ic kc : Nat) (w : World) (hR : ∀ u, Calls Tryz.prog 48 #[.agg #[.int .i64 3, .string nm, .string tx, .slice io 0 ic, .slice ko 0 kc]] u fun e w' => e = .returned (.bool true) ∧ Below u.heap.size u w') :
    Calls Tryz.prog 31 #[.agg #[.int .i64 5, .string vn, .string vx, .slice vo NI vc, .slice uo NK uc], .agg #[.int .i64 3, .string nm, .string tx, .slice io 0 ic, .slice ko 0 kc]] w fun e w' => e = .returned (.bool true) ∧ Below w.heap.size w w' := by
  have HR := Hid.mk hR
  clear hR
  have b0 := Hid.mk (vboxM (heap_alloc_new w (.cells #[.int .i64 5, .string vn, .string vx, .slice vo NI vc, .slice uo NK uc] 37)))
  go_enter Tryz.func31, Tryz.ntmps31
  go_wp2_with fail
  refine (HR.out _).mono ?_
  rintro e w1 ⟨rfl, hb1⟩
  have hv := (hb1.block w.heap.size (by simp; omega)).trans ((Below.heap_alloc _ _ _ (by simp)).trans (heap_alloc_new w (.cells #[.int .i64 5, .string vn, .string vx, .slice vo NI vc, .slice uo NK uc] 37)))
  have hk := (hb1.block (w.heap.size + 1) (by simp)).trans (box2 w _ (.cells #[.int .i64 3, .string nm, .string tx, .slice io 0 ic, .slice ko 0 kc] 37))
  obtain ⟨v0, v1, v2, v3, v4, _, _, _, _, _⟩ := vboxM hv
  obtain ⟨k0, k1, k2, k3, k4, _, _, _, _, _⟩ := vboxM hk
  have HB : Hid (Below w.heap.size w w1) := ((below1 w _).alloc (by simp) _).trans (hb1.mono (by simp; omega))
  clear hb1 hv hk
  go_wp2_with fail
  all_goals
    go_ret
    exact ⟨rfl, HB.out⟩

theorem take_dig (s : ByteArray) (k : Nat) (h : k < s.size) : s.data.toList.take (k + 1) = s.data.toList.take k ++ [s[k]] := by
  rw [List.take_succ_eq_append_getElem (by show k < s.data.toList.length; rw [Array.length_toList]; exact h)]
  rfl

set_option maxRecDepth 100000 in
set_option maxHeartbeats 3200000 in
theorem w_8Place (s : ByteArray) (N I : Nat) (w : World) (h0 : 0 < s.size) (hs : s.size ≤ 16777216) (hd : ∀ q (h : q < s.size), 48 ≤ ((s[q].toNat : Nat) : Int) ∧ ((s[q].toNat : Nat) : Int) ≤ 57) (hle : ∀ k, digV (s.data.toList.take k) ≤ I) (hI : I < 1099511627776) (he : digV s.data.toList = I) :
    Calls Tryz.prog 49 #[.string s, .int .i64 (N : Int)] w fun e w' => e = .returned (.int .i64 (I : Int)) ∧ w' = w := by
  have HD := Hid.mk hd
  have HL := Hid.mk hle
  have HE := Hid.mk he
  have hn : ¬ ((s[0].toNat : Nat) : Int) = 45 := by have := hd 0 h0; omega
  have hnb : (((s[0].toNat : Nat) : Int) == 45) = false := by rw [beq_eq_false_iff_ne]; exact hn
  have hz : (0 : Int) < (s.size : Int) := by omega
  clear hd hle he
  go_enter Tryz.func49, Tryz.ntmps49
  go_wp2_with fail
  have HIL := Hid.mk hI
  clear hI
  go_loopw [6, 7] (fun nn i wr => ∃ (k : Nat) (z : Int), k ≤ s.size ∧ 0 ≤ z ∧ z < 1099511627776 ∧ nn = .int .i64 z ∧ i = .int .i64 (k : Int) ∧ Hid (z = (digV (s.data.toList.take k) : Int)) ∧ wr = w) (fun _ i _ => s.size - (intOf i).toNat)
  case atStart => exact ⟨0, 0, by omega, by omega, by decide, rfl, rfl, rfl, rfl⟩
  case round =>
    obtain ⟨k, z, hk, hz0, hz1, rfl, rfl, HN, rfl⟩ := hrel
    by_cases hkl : k < s.size
    · have hj1 : (k : Int) < (s.size : Int) := by omega
      have hj0 : (0 : Int) ≤ (k : Int) := by omega
      have hc := HD.out k hkl
      have hup := HL.out (k + 1)
      have hil := HIL.out
      obtain ⟨x, hx⟩ : ∃ x : Int, ((s[k].toNat : Nat) : Int) = x := ⟨_, rfl⟩
      have HC : Hid (10 * z + (x - 48) = (digV (s.data.toList.take (k + 1)) : Int)) := by show _ = _; rw [take_dig s k hkl, digV_snoc, HN.out]; omega
      have h1 : 0 ≤ 10 * z + (x - 48) := by rw [HC.out]; omega
      have h2 : 10 * z + (x - 48) < 1099511627776 := by rw [HC.out]; omega
      rw [hx] at hc
      obtain ⟨hc1, hc2⟩ := hc
      have hx45 : ¬ x = 45 := by omega
      have hxb : (x == 45) = false := by rw [beq_eq_false_iff_ne]; exact hx45
      have HH := Hid.mk (And.intro h1 h2)
      clear hn hnb hup hil h1 h2
      go_wp2_with fail
      go_roundw
      case rel => exact ⟨k + 1, 10 * z + (x - 48), by omega, HH.out.1, HH.out.2, by go_num, by go_num, HC, by first | rfl | trivial⟩
      case measure => simp [intOf]; omega
    · obtain rfl : k = s.size := by omega
      have hj1 : ¬ (s.size : Int) < (s.size : Int) := by omega
      have hF : z = (I : Int) := by rw [HN.out, List.take_of_length_le (by rw [Array.length_toList]; exact Nat.le_refl _), HE.out]
      subst hF
      go_wp2_with fail
      go_ret
      exact ⟨rfl, rfl⟩
end Go.Proofs.YtapjfocjeligiaaGreatDoor
namespace Go.Proofs.YtapjfocjeligiaaGreatDoor
open Go.RowKit Go.Shelf Go.Sort
set_option linter.unusedVariables false
set_option linter.unusedSimpArgs false
attribute [local go_sem] Oper.semAt_some

theorem box3 (w : World) (o1 o2 o3 : Obj) : (((w.alloc o1).alloc o2).alloc o3).heap[w.heap.size + 1 + 1]? = some o3 := by
  have h := heap_alloc_new ((w.alloc o1).alloc o2) o3
  rw [World.size_alloc, World.size_alloc] at h
  exact h
/-- the boxes of a value and of a key -/
structure KBx (w u : World) (vk : Int) (vn vx : ByteArray) (vo : Option Addr) (NI vc : Nat) (uo : Option Addr) (NK uc : Nat) (kd : Int) (nm tx : ByteArray) (io : Option Addr) (ic : Nat) (ko : Option Addr) (kc : Nat) : Prop where
  below : Below w.heap.size w u
  bv : u.heap[w.heap.size]? = some (.cells #[.int .i64 vk, .string vn, .string vx, .slice vo NI vc, .slice uo NK uc] 37 (0, 0))
  bk : u.heap[w.heap.size + 1]? = some (.cells #[.int .i64 kd, .string nm, .string tx, .slice io 0 ic, .slice ko 0 kc] 37 (0, 0))
theorem KBx.keep {w u u' : World} {vk : Int} {vn vx : ByteArray} {vo : Option Addr} {NI vc : Nat} {uo : Option Addr} {NK uc : Nat} {kd : Int} {nm tx : ByteArray} {io : Option Addr} {ic : Nat} {ko : Option Addr} {kc : Nat} (h : KBx w u vk vn vx vo NI vc uo NK uc kd nm tx io ic ko kc) (hb : Below u.heap.size u u') : KBx w u' vk vn vx vo NI vc uo NK uc kd nm tx io ic ko kc :=
  ⟨h.below.trans (hb.mono h.below.size), (hb.block _ (lt_row h.bv)).trans h.bv, (hb.block _ (lt_row h.bk)).trans h.bk⟩
theorem kbx_new (w : World) (vk : Int) (vn vx : ByteArray) (vo : Option Addr) (NI vc : Nat) (uo : Option Addr) (NK uc : Nat) (kd : Int) (nm tx : ByteArray) (io : Option Addr) (ic : Nat) (ko : Option Addr) (kc : Nat) : KBx w ((w.alloc (.cells #[.int .i64 vk, .string vn, .string vx, .slice vo NI vc, .slice uo NK uc] 37)).alloc (.cells #[.int .i64 kd, .string nm, .string tx, .slice io 0 ic, .slice ko 0 kc] 37)) vk vn vx vo NI vc uo NK uc kd nm tx io ic ko kc :=
  ⟨(below1 w _).alloc (by simp) _, (Below.heap_alloc _ _ _ (by simp)).trans (heap_alloc_new w _), box2 w _ _⟩

set_option maxRecDepth 100000 in
set_option maxHeartbeats 3200000 in
theorem w_8FindT (ks : List ByteArray) (J : Nat) (vn vx : ByteArray) (vo : Option Addr) (NI vc : Nat) (uo : Option Addr) (NK uc : Nat) (nm tx : ByteArray) (io : Option Addr) (ic : Nat) (ko : Option Addr) (kc : Nat) (w : World) (hk : KIn w uo ks) (hN : ks.length = NK) (hc : NK ≤ uc) (hN2 : NK ≤ 140737488355328) (hJ : J < NK) (hy : (ks.getD J .empty).toList = tx.toList) (hn : ∀ j, j < J → (ks.getD j .empty).toList ≠ tx.toList) :
    Calls Tryz.prog 32 #[.agg #[.int .i64 6, .string vn, .string vx, .slice vo NI vc, .slice uo NK uc], .agg #[.int .i64 4, .string nm, .string tx, .slice io 0 ic, .slice ko 0 kc]] w fun e w' => e = .returned (.int .i64 (J : Int)) ∧ Below w.heap.size w w' := by
  have HA := Hid.mk hk
  have HM := Hid.mk hN
  have HY := Hid.mk hy
  have HNo := Hid.mk hn
  have HX := Hid.mk (kbx_new w 6 vn vx vo NI vc uo NK uc 4 nm tx io ic ko kc)
  clear hk hN hy hn
  go_enter Tryz.func32, Tryz.ntmps32
  go_wp2_with fail
  go_loopw [5] (fun i wr => ∃ k : Nat, k ≤ J ∧ i = .int .i64 (k : Int) ∧ Hid (KBx w wr 6 vn vx vo NI vc uo NK uc 4 nm tx io ic ko kc)) (fun i _ => J - (intOf i).toNat)
  case atStart => exact ⟨0, Nat.zero_le _, rfl, HX⟩
  case round =>
    clear HX
    obtain ⟨k, hkJ, rfl, HX⟩ := hrel
    have hl1 : (k : Int) < (NK : Int) := by omega
    have hl0 : (0 : Int) ≤ (k : Int) := by omega
    have hkl : k < ks.length := by rw [HM.out]; omega
    obtain ⟨b, off, hko, hbl, hrow⟩ := (HA.out.keep HX.out.below).row (by omega)
    have c0 := hrow k hkl
    subst hko
    obtain ⟨v0, v1, v2, v3, v4, _, _, _, _, _⟩ := vboxM HX.out.bv
    obtain ⟨k0, k1, k2, k3, k4, _, _, _, _, _⟩ := vboxM HX.out.bk
    have HXk := Hid.mk (fun h => HNo.out k h)
    have HXy : Hid (k = J → (ks.getD k .empty).toList = tx.toList) := fun e => by rw [e]; exact HY.out
    generalize ks.getD k ByteArray.empty = x at *
    have R0 := fun d os => cell_regrown c0 d os
    have A4 := fun d os => cell_regrown v4 d os
    have B2 := fun d os => cell_regrown k2 d os
    clear hrow hbl hkl
    by_cases hJk : k = J
    · have hx : (x.toList == tx.toList) = true := by rw [HXy.out hJk]; exact beq_self_eq_true _
      subst hJk
      go_wp2_with fail
      refine wp_region_quiet_below (by kernel_rfl) (by kernel_rfl) ?_
      repeat (go_big_quiet_step (fail))
      refine wpQuiet_nil ?_
      intro w2 hw'
      have hb2 : Below wr.heap.size wr w2 := by
        obtain ⟨⟨dq, osq⟩, rfl⟩ := hw'
        exact below_regrown wr dq osq
      have HX2 := Hid.mk (HX.out.keep hb2)
      clear hb2
      clear hw' R0 A4 B2
      go_wp2_with fail
      go_ret
      exact ⟨rfl, HX2.out.below⟩
    · have hx : (x.toList == tx.toList) = false := by rw [beq_eq_false_iff_ne]; exact HXk.out (by omega)
      go_wp2_with fail
      refine wp_region_quiet_below (by kernel_rfl) (by kernel_rfl) ?_
      repeat (go_big_quiet_step (fail))
      refine wpQuiet_nil ?_
      intro w2 hw'
      have hb2 : Below wr.heap.size wr w2 := by
        obtain ⟨⟨dq, osq⟩, rfl⟩ := hw'
        exact below_regrown wr dq osq
      have HX2 := Hid.mk (HX.out.keep hb2)
      clear hb2
      clear hw' R0 A4 B2
      go_wp2_with fail
      go_roundw
      case rel => exact ⟨k + 1, by omega, by go_num, HX2⟩
      case measure => simp [intOf]; omega

set_option maxRecDepth 100000 in
set_option maxHeartbeats 3200000 in
theorem w_8FindN (J : Nat) (vn vx : ByteArray) (vo : Option Addr) (NI vc : Nat) (uo : Option Addr) (NK uc : Nat) (nm tx : ByteArray) (io : Option Addr) (ic : Nat) (ko : Option Addr) (kc : Nat) (w : World) (hJ : J < NI) (hN2 : NI ≤ 140737488355328) (hP : ∀ u, Calls Tryz.prog 49 #[.string nm, .int .i64 (NI : Int)] u fun e w' => e = .returned (.int .i64 (J : Int)) ∧ w' = u) :
    Calls Tryz.prog 32 #[.agg #[.int .i64 5, .string vn, .string vx, .slice vo NI vc, .slice uo NK uc], .agg #[.int .i64 3, .string nm, .string tx, .slice io 0 ic, .slice ko 0 kc]] w fun e w' => e = .returned (.int .i64 (J : Int)) ∧ Below w.heap.size w w' := by
  have HP := Hid.mk hP
  have HX := Hid.mk (kbx_new w 5 vn vx vo NI vc uo NK uc 3 nm tx io ic ko kc)
  have hl1 : (J : Int) < (NI : Int) := by omega
  have hl0 : (0 : Int) ≤ (J : Int) := by omega
  clear hP
  go_enter Tryz.func32, Tryz.ntmps32
  go_wp2_with fail
  refine (HP.out _).mono ?_
  rintro e w1 ⟨rfl, rfl⟩
  go_wp2_with fail
  go_ret
  exact ⟨rfl, HX.out.below⟩

set_option maxRecDepth 100000 in
set_option maxHeartbeats 3200000 in
theorem w_8StepT (h : Nat) (its : List VT) (J : Nat) (hJl : J < its.length) (vn vx : ByteArray) (vo : Option Addr) (NI vc : Nat) (uo : Option Addr) (NK uc : Nat) (nm tx : ByteArray) (io : Option Addr) (ic : Nat) (ko : Option Addr) (kc : Nat) (w0 w : World) (hu0 : Below w0.heap.size w0 w) (hI : IIn w0 h vo its) (hN : its.length = NI) (hc : NI ≤ vc) (hN2 : NI ≤ 140737488355328)
    (hF : ∀ u, Calls Tryz.prog 31 #[.agg #[.int .i64 6, .string vn, .string vx, .slice vo NI vc, .slice uo NK uc], .agg #[.int .i64 4, .string nm, .string tx, .slice io 0 ic, .slice ko 0 kc]] u fun e w' => e = .returned (.bool true) ∧ Below u.heap.size u w')
    (hG : ∀ u, Below w.heap.size w u → Calls Tryz.prog 32 #[.agg #[.int .i64 6, .string vn, .string vx, .slice vo NI vc, .slice uo NK uc], .agg #[.int .i64 4, .string nm, .string tx, .slice io 0 ic, .slice ko 0 kc]] u fun e w' => e = .returned (.int .i64 (J : Int)) ∧ Below u.heap.size u w') :
    Calls Tryz.prog 16 #[.agg #[.int .i64 6, .string vn, .string vx, .slice vo NI vc, .slice uo NK uc], .agg #[.int .i64 4, .string nm, .string tx, .slice io 0 ic, .slice ko 0 kc]] w fun e w' => (∃ y0 y1 y2 y3 y4, e = .returned (.tuple #[.agg #[y0, y1, y2, y3, y4], .bool true]) ∧ InH w0 h its[J] (.agg #[y0, y1, y2, y3, y4])) ∧ Below w.heap.size w w' := by
  have HU0 := Hid.mk hu0
  clear hu0
  have HF := Hid.mk hF
  have HG := Hid.mk hG
  have HI := Hid.mk hI
  have hJ1 : J < NI := by omega
  have HN := Hid.mk hN
  have hl1 : ¬ (NI : Int) ≤ (J : Int) := by omega
  have hl2 : (J : Int) < (NI : Int) := by omega
  have hl0 : (0 : Int) ≤ (J : Int) := by omega
  have hl3 : ¬ (J : Int) < 0 := by omega
  have HX := Hid.mk (kbx_new w 6 vn vx vo NI vc uo NK uc 4 nm tx io ic ko kc)
  clear hF hG hI hN
  go_enter Tryz.func16, Tryz.ntmps16
  go_wp2_with fail
  have HZ0 := Hid.mk (box3 w (.cells #[.int .i64 6, .string vn, .string vx, .slice vo NI vc, .slice uo NK uc] 37) (.cells #[.int .i64 4, .string nm, .string tx, .slice io 0 ic, .slice ko 0 kc] 37) (.cells #[.int .i64 0, .string ⟨#[]⟩, .string ⟨#[]⟩, .slice none 0 0, .slice none 0 0] 37))
  refine (HF.out _).mono ?_
  rintro e w1 ⟨rfl, hb1⟩
  have HX1 := Hid.mk ((HX.out.keep (below1 _ _)).keep hb1)
  have HZ1 := Hid.mk ((hb1.block (w.heap.size + 1 + 1) (by simp)).trans HZ0.out)
  clear hb1 HX HF HZ0
  obtain ⟨v0, v1, v2, v3, v4, _, _, _, _, _⟩ := vboxM HX1.out.bv
  obtain ⟨k0, k1, k2, k3, k4, _, _, _, _, _⟩ := vboxM HX1.out.bk
  go_wp2_with fail
  refine (HG.out _ HX1.out.below).mono ?_
  rintro e w2 ⟨rfl, hb2⟩
  have HX2 := Hid.mk (HX1.out.keep hb2)
  have HZ2 := Hid.mk ((hb2.block (w.heap.size + 1 + 1) (lt_row HZ1.out)).trans HZ1.out)
  clear hb2 HX1 HG HZ1 v0 v1 v2 v3 v4 k0 k1 k2 k3 k4
  obtain ⟨v0, v1, v2, v3, v4, _, _, _, _, _⟩ := vboxM HX2.out.bv
  obtain ⟨z0, z1, z2, z3, z4, zf0, zf1, zf2, zf3, zf4⟩ := vboxM HZ2.out
  have hzl := lt_row HZ2.out
  obtain ⟨b, off, hio, hbl, hrow⟩ := HI.out.row (by omega)
  subst hio
  obtain ⟨y0, y1, y2, y3, y4, ⟨d0, d1, d2, d3, d4⟩, ht⟩ := hrow J hJl
  obtain ⟨h', rfl⟩ : ∃ h', h = h' + 1 := by
    cases h with
    | zero => exact ht.elim
    | succ h' => exact ⟨h', rfl⟩
  obtain ⟨jo, jc, lo, lc, e, _⟩ := ht.open
  simp only [Value.agg.injEq, Array.mk.injEq, List.cons.injEq, and_true] at e
  obtain ⟨rfl, rfl, rfl, rfl, rfl⟩ := e
  have HIt := Hid.mk ht
  generalize its[J].kind = q0 at *
  generalize its[J].num = q1 at *
  generalize its[J].text = q2 at *
  generalize its[J].items.length = q3 at *
  generalize its[J].keys.length = q4 at *
  have c0 := ((HU0.out.trans (HX2.out.below.mono HU0.out.size)).cell (p := ⟨_, _, _⟩) hbl).trans d0
  have c1 := ((HU0.out.trans (HX2.out.below.mono HU0.out.size)).cell (p := ⟨_, _, _⟩) hbl).trans d1
  have c2 := ((HU0.out.trans (HX2.out.below.mono HU0.out.size)).cell (p := ⟨_, _, _⟩) hbl).trans d2
  have c3 := ((HU0.out.trans (HX2.out.below.mono HU0.out.size)).cell (p := ⟨_, _, _⟩) hbl).trans d3
  have c4 := ((HU0.out.trans (HX2.out.below.mono HU0.out.size)).cell (p := ⟨_, _, _⟩) hbl).trans d4
  have HT := Hid.mk ht
  clear hrow ht hbl HI d0 d1 d2 d3 d4
  obtain ⟨W4, hW4⟩ : ∃ W4, (((((w2.setCell ⟨w.heap.size + 1 + 1, 0, none⟩ (.int .i64 q0)).setCell ⟨w.heap.size + 1 + 1, 1, none⟩ (.string q1)).setCell ⟨w.heap.size + 1 + 1, 2, none⟩ (.string q2)).setCell ⟨w.heap.size + 1 + 1, 3, none⟩ (.slice jo q3 jc)).setCell ⟨w.heap.size + 1 + 1, 4, none⟩ (.slice lo q4 lc)) = W4 := ⟨_, rfl⟩
  obtain ⟨e5, k5, s5⟩ := rboxM w2 _ _ _ _ _ _ _ _ _ _ _ _ HZ2.out W4 hW4.symm
  obtain ⟨r0, r1, r2, r3, r4, _, _, _, _, _⟩ := vboxM e5
  have HB4 : Hid (Below w.heap.size w W4) := by
    show Below _ _ _
    rw [← hW4]
    exact ((((HX2.out.below.setCell (p := ⟨w.heap.size + 1 + 1, 0, none⟩) (by show w.heap.size ≤ w.heap.size + 1 + 1; omega) _).setCell (p := ⟨w.heap.size + 1 + 1, 1, none⟩) (by show w.heap.size ≤ w.heap.size + 1 + 1; omega) _).setCell (p := ⟨w.heap.size + 1 + 1, 2, none⟩) (by show w.heap.size ≤ w.heap.size + 1 + 1; omega) _).setCell (p := ⟨w.heap.size + 1 + 1, 3, none⟩) (by show w.heap.size ≤ w.heap.size + 1 + 1; omega) _).setCell (p := ⟨w.heap.size + 1 + 1, 4, none⟩) (by show w.heap.size ≤ w.heap.size + 1 + 1; omega) _
  clear e5 k5 s5
  go_wp2_with fail
  (try simp only [Exit.inBlock, Exit.then])
  refine bodyPost_ret (v := .tuple #[.agg #[.int .i64 q0, .string q1, .string q2, .slice jo q3 jc, .slice lo q4 lc], .bool true]) (by simp [results, Tryz.results16, go_sem, r0, r1, r2, r3, r4]) rfl ?_
  exact ⟨⟨_, _, _, _, _, rfl, HT.out⟩, HB4.out⟩

set_option maxRecDepth 100000 in
set_option maxHeartbeats 3200000 in
theorem w_8StepN (h : Nat) (its : List VT) (J : Nat) (hJl : J < its.length) (vn vx : ByteArray) (vo : Option Addr) (NI vc : Nat) (uo : Option Addr) (NK uc : Nat) (nm tx : ByteArray) (io : Option Addr) (ic : Nat) (ko : Option Addr) (kc : Nat) (w0 w : World) (hu0 : Below w0.heap.size w0 w) (hI : IIn w0 h vo its) (hN : its.length = NI) (hc : NI ≤ vc) (hN2 : NI ≤ 140737488355328)
    (hF : ∀ u, Calls Tryz.prog 31 #[.agg #[.int .i64 5, .string vn, .string vx, .slice vo NI vc, .slice uo NK uc], .agg #[.int .i64 3, .string nm, .string tx, .slice io 0 ic, .slice ko 0 kc]] u fun e w' => e = .returned (.bool true) ∧ Below u.heap.size u w')
    (hG : ∀ u, Below w.heap.size w u → Calls Tryz.prog 32 #[.agg #[.int .i64 5, .string vn, .string vx, .slice vo NI vc, .slice uo NK uc], .agg #[.int .i64 3, .string nm, .string tx, .slice io 0 ic, .slice ko 0 kc]] u fun e w' => e = .returned (.int .i64 (J : Int)) ∧ Below u.heap.size u w') :
    Calls Tryz.prog 16 #[.agg #[.int .i64 5, .string vn, .string vx, .slice vo NI vc, .slice uo NK uc], .agg #[.int .i64 3, .string nm, .string tx, .slice io 0 ic, .slice ko 0 kc]] w fun e w' => (∃ y0 y1 y2 y3 y4, e = .returned (.tuple #[.agg #[y0, y1, y2, y3, y4], .bool true]) ∧ InH w0 h its[J] (.agg #[y0, y1, y2, y3, y4])) ∧ Below w.heap.size w w' := by
  have HU0 := Hid.mk hu0
  clear hu0
  have HF := Hid.mk hF
  have HG := Hid.mk hG
  have HI := Hid.mk hI
  have hJ1 : J < NI := by omega
  have HN := Hid.mk hN
  have hl1 : ¬ (NI : Int) ≤ (J : Int) := by omega
  have hl2 : (J : Int) < (NI : Int) := by omega
  have hl0 : (0 : Int) ≤ (J : Int) := by omega
  have hl3 : ¬ (J : Int) < 0 := by omega
  have HX := Hid.mk (kbx_new w 5 vn vx vo NI vc uo NK uc 3 nm tx io ic ko kc)
  clear hF hG hI hN
  go_enter Tryz.func16, Tryz.ntmps16
  go_wp2_with fail
  have HZ0 := Hid.mk (box3 w (.cells #[.int .i64 5, .string vn, .string vx, .slice vo NI vc, .slice uo NK uc] 37) (.cells #[.int .i64 3, .string nm, .string tx, .slice io 0 ic, .slice ko 0 kc] 37) (.cells #[.int .i64 0, .string ⟨#[]⟩, .string ⟨#[]⟩, .slice none 0 0, .slice none 0 0] 37))
  refine (HF.out _).mono ?_
  rintro e w1 ⟨rfl, hb1⟩
  have HX1 := Hid.mk ((HX.out.keep (below1 _ _)).keep hb1)
  have HZ1 := Hid.mk ((hb1.block (w.heap.size + 1 + 1) (by simp)).trans HZ0.out)
  clear hb1 HX HF HZ0
  obtain ⟨v0, v1, v2, v3, v4, _, _, _, _, _⟩ := vboxM HX1.out.bv
  obtain ⟨k0, k1, k2, k3, k4, _, _, _, _, _⟩ := vboxM HX1.out.bk
  go_wp2_with fail
  refine (HG.out _ HX1.out.below).mono ?_
  rintro e w2 ⟨rfl, hb2⟩
  have HX2 := Hid.mk (HX1.out.keep hb2)
  have HZ2 := Hid.mk ((hb2.block (w.heap.size + 1 + 1) (lt_row HZ1.out)).trans HZ1.out)
  clear hb2 HX1 HG HZ1 v0 v1 v2 v3 v4 k0 k1 k2 k3 k4
  obtain ⟨v0, v1, v2, v3, v4, _, _, _, _, _⟩ := vboxM HX2.out.bv
  obtain ⟨z0, z1, z2, z3, z4, zf0, zf1, zf2, zf3, zf4⟩ := vboxM HZ2.out
  have hzl := lt_row HZ2.out
  obtain ⟨b, off, hio, hbl, hrow⟩ := HI.out.row (by omega)
  subst hio
  obtain ⟨y0, y1, y2, y3, y4, ⟨d0, d1, d2, d3, d4⟩, ht⟩ := hrow J hJl
  obtain ⟨h', rfl⟩ : ∃ h', h = h' + 1 := by
    cases h with
    | zero => exact ht.elim
    | succ h' => exact ⟨h', rfl⟩
  obtain ⟨jo, jc, lo, lc, e, _⟩ := ht.open
  simp only [Value.agg.injEq, Array.mk.injEq, List.cons.injEq, and_true] at e
  obtain ⟨rfl, rfl, rfl, rfl, rfl⟩ := e
  have HIt := Hid.mk ht
  generalize its[J].kind = q0 at *
  generalize its[J].num = q1 at *
  generalize its[J].text = q2 at *
  generalize its[J].items.length = q3 at *
  generalize its[J].keys.length = q4 at *
  have c0 := ((HU0.out.trans (HX2.out.below.mono HU0.out.size)).cell (p := ⟨_, _, _⟩) hbl).trans d0
  have c1 := ((HU0.out.trans (HX2.out.below.mono HU0.out.size)).cell (p := ⟨_, _, _⟩) hbl).trans d1
  have c2 := ((HU0.out.trans (HX2.out.below.mono HU0.out.size)).cell (p := ⟨_, _, _⟩) hbl).trans d2
  have c3 := ((HU0.out.trans (HX2.out.below.mono HU0.out.size)).cell (p := ⟨_, _, _⟩) hbl).trans d3
  have c4 := ((HU0.out.trans (HX2.out.below.mono HU0.out.size)).cell (p := ⟨_, _, _⟩) hbl).trans d4
  have HT := Hid.mk ht
  clear hrow ht hbl HI d0 d1 d2 d3 d4
  obtain ⟨W4, hW4⟩ : ∃ W4, (((((w2.setCell ⟨w.heap.size + 1 + 1, 0, none⟩ (.int .i64 q0)).setCell ⟨w.heap.size + 1 + 1, 1, none⟩ (.string q1)).setCell ⟨w.heap.size + 1 + 1, 2, none⟩ (.string q2)).setCell ⟨w.heap.size + 1 + 1, 3, none⟩ (.slice jo q3 jc)).setCell ⟨w.heap.size + 1 + 1, 4, none⟩ (.slice lo q4 lc)) = W4 := ⟨_, rfl⟩
  obtain ⟨e5, k5, s5⟩ := rboxM w2 _ _ _ _ _ _ _ _ _ _ _ _ HZ2.out W4 hW4.symm
  obtain ⟨r0, r1, r2, r3, r4, _, _, _, _, _⟩ := vboxM e5
  have HB4 : Hid (Below w.heap.size w W4) := by
    show Below _ _ _
    rw [← hW4]
    exact ((((HX2.out.below.setCell (p := ⟨w.heap.size + 1 + 1, 0, none⟩) (by show w.heap.size ≤ w.heap.size + 1 + 1; omega) _).setCell (p := ⟨w.heap.size + 1 + 1, 1, none⟩) (by show w.heap.size ≤ w.heap.size + 1 + 1; omega) _).setCell (p := ⟨w.heap.size + 1 + 1, 2, none⟩) (by show w.heap.size ≤ w.heap.size + 1 + 1; omega) _).setCell (p := ⟨w.heap.size + 1 + 1, 3, none⟩) (by show w.heap.size ≤ w.heap.size + 1 + 1; omega) _).setCell (p := ⟨w.heap.size + 1 + 1, 4, none⟩) (by show w.heap.size ≤ w.heap.size + 1 + 1; omega) _
  clear e5 k5 s5
  go_wp2_with fail
  (try simp only [Exit.inBlock, Exit.then])
  refine bodyPost_ret (v := .tuple #[.agg #[.int .i64 q0, .string q1, .string q2, .slice jo q3 jc, .slice lo q4 lc], .bool true]) (by simp [results, Tryz.results16, go_sem, r0, r1, r2, r3, r4]) rfl ?_
  exact ⟨⟨_, _, _, _, _, rfl, HT.out⟩, HB4.out⟩
end Go.Proofs.YtapjfocjeligiaaGreatDoor
