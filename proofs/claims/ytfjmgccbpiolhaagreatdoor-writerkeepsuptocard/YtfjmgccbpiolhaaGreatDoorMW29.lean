import Derived.Test.YtfjmgccbpiolhaaGreatDoorMW28
import Derived.Test.YtfjmgccbpiolhaaGreatDoorMW12
import Derived.Test.YtfjmgccbpiolhaaGreatDoorMW17
import Derived.Laws.EntriesVeiled
import Derived.Test.YtfjmgccbpiolhaaGreatDoorMW22
namespace Go.Proofs.YtfjmgccbpiolhaaGreatDoor
open Go.RowKit Go.Sort
set_option linter.unusedVariables false
set_option linter.unusedSimpArgs false

theorem sum_rng {ts : List VT} (f : VT → Nat) (c : Nat) (b : Nat → Nat) (hb : ∀ i, (hi : i < ts.length) → b i = c * f ts[i]) : sumL ((List.range ts.length).map b) = c * sumL (ts.map f) := by
  have e : (List.range ts.length).map b = ts.map (fun t => c * f t) := by
    refine List.ext_getElem (by simp) fun i h1 h2 => ?_
    simp only [List.getElem_map, List.getElem_range]
    exact hb i (by simpa using h2)
  rw [e]
  clear e hb
  induction ts with
  | nil => simp [sumL]
  | cons a r ih => simp only [List.map_cons, sumL, ih, Nat.mul_add]
theorem wrV_len (st : Option Nat) (hst : ∀ s, st = some s → s ≤ 8) : ∀ (h d : Nat) (T : VT), formN h T = true → ShV h T → d + szN h T ≤ 1048577 → (wrV st h d T).length + 16777216 ≤ 33554432 * szN h T
  | 0, d, T, hf, _, _ => by cases hf
  | h + 1, d, T, hf, hsh, hd => by
    obtain ⟨s1, s2, s3, s4⟩ := hsh
    have hsz : szN (h + 1) T = 1 + T.keys.length + sumL (T.items.map (szN h)) := rfl
    have e1 : T.num.data.toList.length = T.num.size := by rw [Array.length_toList]; rfl
    have e2 : T.text.data.toList.length = T.text.size := by rw [Array.length_toList]; rfl
    have e3 := wQ_len T.text.data.toList
    by_cases k0 : T.kind = 0
    · have hw : wrV st (h + 1) d T = [110, 117, 108, 108] := by unfold wrV; rw [if_pos k0]
      rw [hw]; simp only [List.length_cons, List.length_nil]; omega
    by_cases k1 : T.kind = 1
    · have hw : wrV st (h + 1) d T = [102, 97, 108, 115, 101] := by unfold wrV; rw [if_neg k0, if_pos k1]
      rw [hw]; simp only [List.length_cons, List.length_nil]; omega
    by_cases k2 : T.kind = 2
    · have hw : wrV st (h + 1) d T = [116, 114, 117, 101] := by unfold wrV; rw [if_neg k0, if_neg k1, if_pos k2]
      rw [hw]; simp only [List.length_cons, List.length_nil]; omega
    by_cases k3 : T.kind = 3
    · have hw : wrV st (h + 1) d T = T.num.data.toList := by unfold wrV; rw [if_neg k0, if_neg k1, if_neg k2, if_pos k3]
      rw [hw]; omega
    by_cases k4 : T.kind = 4
    · have hw : wrV st (h + 1) d T = wQ T.text.data.toList := by unfold wrV; rw [if_neg k0, if_neg k1, if_neg k2, if_neg k3, if_pos k4]
      rw [hw]; omega
    have hk56 : T.kind = 5 ∨ T.kind = 6 := by rcases form_kind hf with h1 | h1 <;> omega
    obtain ⟨o, c, hw⟩ : ∃ o c, wrV st (h + 1) d T = rowW o c (lnW st (d + 1)) (lnW st d) (nmV T st) (fun i => (T.items[i]?.map (wrV st h (d + 1))).getD []) T.items.length := by
      unfold wrV; rw [if_neg k0, if_neg k1, if_neg k2, if_neg k3, if_neg k4]; exact ⟨_, _, rfl⟩
    rw [hw]
    unfold rowW
    split
    · simp only [List.length_cons, List.length_nil]; omega
    · have l1 := lnW_len st (d + 1) hst
      have l0 := lnW_len st d hst
      have hb := joinR_len (pcW o (lnW st (d + 1)) (nmV T st) (fun i => (T.items[i]?.map (wrV st h (d + 1))).getD [])) (fun i => 33554432 * (T.items[i]?.map (szN h)).getD 0) T.items.length (by
        intro i hil
        have hgi : T.items[i]? = some T.items[i] := List.getElem?_eq_getElem hil
        have hs1 := szN_item (h := h) hil
        have ihi := wrV_len st hst h (d + 1) T.items[i] (form_items hf hk56 i hil) (s4 _ (List.getElem_mem hil)) (by omega)
        have hnm : (nmV T st i).length ≤ 6 * 1048576 + 4 := by
          unfold nmV
          split
          · have q1 := wQ_len (T.keys.getD i .empty).data.toList
            have q2 := clW_len st
            have q3 : (T.keys.getD i .empty).data.toList.length = (T.keys.getD i .empty).size := by rw [Array.length_toList]; rfl
            have q4 : (T.keys.getD i .empty).size ≤ 1048576 := by
              by_cases hik : i < T.keys.length
              · have e : T.keys.getD i .empty = T.keys[i] := by simp [List.getD, hik]
                rw [e]; exact s3 _ (List.getElem_mem _)
              · have e : T.keys.getD i .empty = .empty := by simp [List.getD, hik]
                rw [e]; decide
            rw [List.length_append]; omega
          · simp
        simp only [pcW, List.length_append, sepW_len, hgi, Option.map_some, Option.getD_some]
        omega)
      rw [sum_rng (szN h) 33554432 _ (fun i hil => by rw [List.getElem?_eq_getElem hil]; rfl)] at hb
      simp only [List.length_append, List.length_cons, List.length_nil]
      omega
theorem sheet_new (w : World) : Sheet w.heap.size w.heap.size (w.alloc (.cells #[.pointer none, .slice none 0 0, .int .i64 0] 76)) [] :=
  ⟨Nat.le_refl _, _, _, heap_alloc_new w _, .inl rfl, World.ownsRow_nil _ _ _ _, fun _ => rfl⟩
theorem sheetN_new (w : World) : SheetN w.heap.size w.heap.size (w.alloc (.cells #[.pointer none, .slice none 0 0, .int .i64 0] 76)) [] :=
  ⟨Nat.le_refl _, heap_alloc_new w _⟩
end Go.Proofs.YtfjmgccbpiolhaaGreatDoor
namespace Go.Proofs.YtfjmgccbpiolhaaGreatDoor
open Go.RowKit
set_option linter.unusedVariables false
set_option linter.unusedSimpArgs false

def stI (st : Option Nat) : Int := match st with
  | none => -1
  | some s => (s : Int)

set_option maxRecDepth 100000 in
set_option maxHeartbeats 1600000 in
theorem w_rline (st : Option Nat) (d : Nat) (w : World) (hst : ∀ s, st = some s → s ≤ 8) (hd : d ≤ 1099511627776) :
    Calls Tryz.prog 93 #[.int .i64 (d : Int), .int .i64 (stI st)] w fun e w' => e = .returned (.string ⟨(lnW st d).toArray⟩) ∧ Below w.heap.size w w' := by
  cases st with
  | none =>
    show Calls Tryz.prog 93 #[.int .i64 (d : Int), .int .i64 (-1)] w _
    go_enter Tryz.func93, Tryz.ntmps93
    go_wp2_with fail
    go_ret
    exact ⟨rfl, Below.refl _ _⟩
  | some sp =>
    show Calls Tryz.prog 93 #[.int .i64 (d : Int), .int .i64 (sp : Int)] w _
    have hs := hst sp rfl
    have hm0 : d * sp ≤ d * 8 := Nat.mul_le_mul_left d hs
    obtain ⟨m, hm⟩ : ∃ m, d * sp = m := ⟨_, rfl⟩
    have hm2 : ((d : Int) * (sp : Int)) = (m : Int) := by rw [← hm]; simp
    have HR : Hid ((lnW (some sp) d) = 10 :: List.replicate m 32) := by show _ = _; unfold lnW; simp only []; rw [hm]
    have hmw : wrap64 (m : Int) = (m : Int) := by unfold wrap64; omega
    have hsn : ¬ (sp : Int) < 0 := by omega
    have hml : m ≤ 8796093022208 := by omega
    clear hm hm0
    obtain ⟨i0, hi0, hz0, hz1, hz2⟩ := info_parts Tryz.infoB
    have HS : Hid (RqSt w (w.alloc (.cells #[.int .u8 10] 5)) (.slice (some ⟨w.heap.size, 0, none⟩) 1 1) 1 [10]) := ⟨rfl, ⟨rfl, .inr ⟨w.heap.size, 1, _, rfl, Nat.le_refl _, heap_alloc_new w _, Nat.le_refl _, by decide, rfl, rfl⟩⟩, (Below.refl _ _).alloc (Nat.le_refl _) _⟩
    go_enter Tryz.func93, Tryz.ntmps93
    go_wp2_with fail
    go_loopw [5, 6] (fun b i wr => ∃ (k n : Nat) (so : Option Addr) (sc : Nat) (l : List UInt8), k ≤ m ∧ n = 1 + k ∧ b = .slice so n sc ∧ i = .int .i64 (k : Int) ∧ Hid (l = 10 :: List.replicate k 32) ∧ Hid (RqSt w wr (.slice so n sc) n l)) (fun _ i _ => m - (intOf i).toNat)
    case atStart => exact ⟨0, 1, _, 1, [10], Nat.zero_le _, rfl, rfl, rfl, rfl, HS⟩
    case round =>
      obtain ⟨k, n, so, sc, l, hk, hn6, rfl, rfl, HE, HQ⟩ := hrel
      have HN := Hid.mk hn6
      have hnb : n ≤ 8796093022300 := by omega
      clear hn6
      by_cases hlt : k < m
      · have hk1 : (k : Int) < (m : Int) := by omega
        have hown0 := HQ.out.own
        have hBw := HQ.out.below.size
        go_wp2_with (at_builtin; refine wpList_append_own _ rfl _ _ 72 rfl w.heap.size 5 i0 (.int .u8 0) 1 1 Tryz.underlying72 hi0 hz0 hz1 hz2 rfl (by decide) _ _ _ rfl (hown0.alloc _) ⟨wr.heap.size, 0, none⟩ 1 1 [.int .u8 32] rfl rfl (by intro j u hj; match j, hj with | 0, hj => simp at hj; subst hj; simp [Addr.add]) (by intro u hu; simp only [List.mem_cons, List.not_mem_nil, or_false] at hu; rcases hu with rfl <;> rfl) (by unfold maxLen; omega) (by omega) (by simp; omega) ?_)
        intro v1 w1 hown1 hgrow1 hnn
        obtain ⟨so1, sc1, hv1⟩ := own_shape hown1
        have HQ2 : Hid (RqSt w w1 v1 (n + 1) (l ++ [32])) := HQ.out.app (m := 1) rfl hown1 hgrow1
        subst hv1
        clear hown1 hgrow1 hnn hown0 hBw
        go_wp2_with fail
        go_roundw
        case rel => exact ⟨k + 1, _, _, _, l ++ [32], hlt, by have := HN.out; omega, rfl, by go_num, by show _ = _; rw [HE.out, List.replicate_succ']; rfl, HQ2⟩
        case measure => simp [intOf]; omega
      · have hk1 : ¬ (k : Int) < (m : Int) := by omega
        have hkm : k = m := by omega
        have hcv := cw_own HQ.out.len HQ.out.own
        have HFin : Hid ((ByteArray.mk l.toArray) = ⟨(lnW (some sp) d).toArray⟩) := by
          show _ = _
          rw [HE.out, HR.out, hkm]
        have HKM := Hid.mk hkm
        clear hkm
        go_wp2_with fail
        go_ret
        exact ⟨by rw [HFin.out]; rfl, HQ.out.below⟩
end Go.Proofs.YtfjmgccbpiolhaaGreatDoor
namespace Go.Proofs.YtfjmgccbpiolhaaGreatDoor
open Go.RowKit
set_option linter.unusedVariables false
set_option linter.unusedSimpArgs false

theorem form_text {h : Nat} {T : VT} (hf : formN (h + 1) T = true) (hk : T.kind = 4) : okB T.text.data.toList = true := by
  unfold formN formV at hf
  rw [hk] at hf
  simp only [show ¬ ((4 : Int) = 0 ∨ (4 : Int) = 1 ∨ (4 : Int) = 2) by omega, show ¬ (4 : Int) = 3 by omega, if_false, if_true, Bool.and_eq_true] at hf
  exact hf.1
theorem form_keys {h : Nat} {T : VT} (hf : formN (h + 1) T = true) (hk : T.kind = 6) (i : Nat) (hi : i < T.keys.length) : okB (T.keys.getD i .empty).data.toList = true := by
  unfold formN formV at hf
  rw [hk] at hf
  simp only [show ¬ ((6 : Int) = 0 ∨ (6 : Int) = 1 ∨ (6 : Int) = 2) by omega, show ¬ (6 : Int) = 3 by omega, show ¬ (6 : Int) = 4 by omega, show ¬ (6 : Int) = 5 by omega, if_false, if_true, Bool.and_eq_true] at hf
  exact List.all_eq_true.1 hf.1.1.2.2 i (List.mem_range.2 hi)
theorem rq_wQ (s : ByteArray) (w : World) (hs : s.size ≤ 68719476736) (ho : okB s.data.toList = true) :
    Calls Tryz.prog 94 #[.string s] w fun e w' => e = .returned (.string ⟨(wQ s.data.toList).toArray⟩) ∧ Below w.heap.size w w' := by
  have h := w_rQuote s w hs
  rw [bq_runes _ ho] at h
  exact h

set_option maxRecDepth 100000 in
set_option maxHeartbeats 400000 in
theorem w_rword0 (nm tx : ByteArray) (io ko : Value) (w : World) : Calls Tryz.prog 92 #[.agg #[.int .i64 0, .string nm, .string tx, io, ko]] w fun e w' => e = .returned (.string ⟨#[110, 117, 108, 108]⟩) ∧ Below w.heap.size w w' := by
  have HX := Hid.mk (vbx_new w (.int .i64 0) (.string nm) (.string tx) io ko)
  obtain ⟨W0, hW0⟩ : ∃ W0, W0 = w.alloc (.cells #[.int .i64 0, .string nm, .string tx, io, ko] 49) := ⟨_, rfl⟩
  have c0 := HX.out.c0
  have c1 := HX.out.c1
  have c2 := HX.out.c2
  clear hW0
  go_enter Tryz.func92, Tryz.ntmps92
  go_wp2_with fail
  go_ret
  exact ⟨rfl, HX.out.below⟩

set_option maxRecDepth 100000 in
set_option maxHeartbeats 400000 in
theorem w_rword1 (nm tx : ByteArray) (io ko : Value) (w : World) : Calls Tryz.prog 92 #[.agg #[.int .i64 1, .string nm, .string tx, io, ko]] w fun e w' => e = .returned (.string ⟨#[102, 97, 108, 115, 101]⟩) ∧ Below w.heap.size w w' := by
  have HX := Hid.mk (vbx_new w (.int .i64 1) (.string nm) (.string tx) io ko)
  obtain ⟨W0, hW0⟩ : ∃ W0, W0 = w.alloc (.cells #[.int .i64 1, .string nm, .string tx, io, ko] 49) := ⟨_, rfl⟩
  have c0 := HX.out.c0
  have c1 := HX.out.c1
  have c2 := HX.out.c2
  clear hW0
  go_enter Tryz.func92, Tryz.ntmps92
  go_wp2_with fail
  go_ret
  exact ⟨rfl, HX.out.below⟩

set_option maxRecDepth 100000 in
set_option maxHeartbeats 400000 in
theorem w_rword2 (nm tx : ByteArray) (io ko : Value) (w : World) : Calls Tryz.prog 92 #[.agg #[.int .i64 2, .string nm, .string tx, io, ko]] w fun e w' => e = .returned (.string ⟨#[116, 114, 117, 101]⟩) ∧ Below w.heap.size w w' := by
  have HX := Hid.mk (vbx_new w (.int .i64 2) (.string nm) (.string tx) io ko)
  obtain ⟨W0, hW0⟩ : ∃ W0, W0 = w.alloc (.cells #[.int .i64 2, .string nm, .string tx, io, ko] 49) := ⟨_, rfl⟩
  have c0 := HX.out.c0
  have c1 := HX.out.c1
  have c2 := HX.out.c2
  clear hW0
  go_enter Tryz.func92, Tryz.ntmps92
  go_wp2_with fail
  go_ret
  exact ⟨rfl, HX.out.below⟩

set_option maxRecDepth 100000 in
set_option maxHeartbeats 400000 in
theorem w_rword3 (nm tx : ByteArray) (io ko : Value) (w : World) : Calls Tryz.prog 92 #[.agg #[.int .i64 3, .string nm, .string tx, io, ko]] w fun e w' => e = .returned (.string nm) ∧ Below w.heap.size w w' := by
  have HX := Hid.mk (vbx_new w (.int .i64 3) (.string nm) (.string tx) io ko)
  obtain ⟨W0, hW0⟩ : ∃ W0, W0 = w.alloc (.cells #[.int .i64 3, .string nm, .string tx, io, ko] 49) := ⟨_, rfl⟩
  have c0 := HX.out.c0
  have c1 := HX.out.c1
  have c2 := HX.out.c2
  clear hW0
  go_enter Tryz.func92, Tryz.ntmps92
  go_wp2_with fail
  go_ret
  exact ⟨rfl, HX.out.below⟩

set_option maxRecDepth 100000 in
set_option maxHeartbeats 400000 in
theorem w_rword4 (nm tx : ByteArray) (io ko : Value) (w : World) (hs : tx.size ≤ 68719476736) (ho : okB tx.data.toList = true) : Calls Tryz.prog 92 #[.agg #[.int .i64 4, .string nm, .string tx, io, ko]] w fun e w' => e = .returned (.string ⟨(wQ tx.data.toList).toArray⟩) ∧ Below w.heap.size w w' := by
  have HX := Hid.mk (vbx_new w (.int .i64 4) (.string nm) (.string tx) io ko)
  obtain ⟨W0, hW0⟩ : ∃ W0, W0 = w.alloc (.cells #[.int .i64 4, .string nm, .string tx, io, ko] 49) := ⟨_, rfl⟩
  have c0 := HX.out.c0
  have c1 := HX.out.c1
  have c2 := HX.out.c2
  have HQ := Hid.mk (rq_wQ tx W0 hs ho)
  have HW0 := Hid.mk hW0
  rw [← hW0] at HX
  clear hW0
  go_enter Tryz.func92, Tryz.ntmps92
  go_wp2_with fail
  rw [← HW0.out]
  refine HQ.out.mono ?_
  rintro e w1 ⟨rfl, hb⟩
  have HB := Hid.mk (HX.out.keep hb).below
  clear hb
  go_wp2_with fail
  go_ret
  exact ⟨rfl, HB.out⟩

def RwOk6 (st : Option Nat) (h : Nat) : Prop :=
  ∀ (T : VT) (v : Value) (w : World) (d : Nat), InH w h T v → formN h T = true → ShV h T → d + szN h T ≤ 1099511627776 → (wrV st h d T).length ≤ 140737488355328 →
    Calls Tryz.prog 46 #[v, .int .i64 (d : Int), .int .i64 (stI st)] w fun e w' => e = .returned (.string ⟨(wrV st h d T).toArray⟩) ∧ Below w.heap.size w w'
def accW (o : UInt8) (g : Nat → List UInt8) (k : Nat) : List UInt8 := if k = 0 then [o] else joinR g k
theorem bsz {a : ByteArray} {l : List UInt8} (h : a.data.toList = l) : a.size = l.length := by rw [← h, Array.length_toList]; rfl
theorem bmk {a : ByteArray} {l : List UInt8} (h : a.data.toList = l) : a = ⟨l.toArray⟩ := by
  obtain ⟨⟨x⟩⟩ := a
  simp at h
  rw [h]

end Go.Proofs.YtfjmgccbpiolhaaGreatDoor
namespace Go.Proofs.YtfjmgccbpiolhaaGreatDoor
open Go.RowKit
set_option linter.unusedVariables false
set_option linter.unusedSimpArgs false

set_option maxRecDepth 100000 in
set_option maxHeartbeats 3200000 in
theorem rw_5p (h : Nat) (ih : RwOk6 none h) (nm tx : ByteArray) (io : Option Addr) (N icap : Nat) (ko : Option Addr) (K kcap : Nat) (w : World) (ts : List VT) (hts : ts.length = N) (hI : IIn w h io ts) (hN : N ≤ icap) (hN2 : N ≤ 140737488355328) (hf : ∀ t ∈ ts, formN h t = true) (hsh : ∀ t ∈ ts, ShV h t) (d : Nat) (hd : d + 1 ≤ 1099511627776) (hdt : ∀ t ∈ ts, d + 1 + szN h t ≤ 1099511627776)
    (it : Nat → List UInt8) (hit : ∀ i, (hi : i < ts.length) → it i = wrV none h (d + 1) ts[i]) (hlen : (rowW 91 93 (lnW none (d + 1)) (lnW none d) (fun _ => []) it N).length ≤ 140737488355328) :
    Calls Tryz.prog 46 #[.agg #[.int .i64 5, .string nm, .string tx, .slice io N icap, .slice ko K kcap], .int .i64 (d : Int), .int .i64 (-1)] w fun e w' => e = .returned (.string ⟨(rowW 91 93 (lnW none (d + 1)) (lnW none d) (fun _ => []) it N).toArray⟩) ∧ Below w.heap.size w w' := by
  have HX0 := Hid.mk (vbx_new w (.int .i64 5) (.string nm) (.string tx) (.slice io N icap) (.slice ko K kcap))
  obtain ⟨W0, hW0⟩ : ∃ W0, W0 = w.alloc (.cells #[.int .i64 5, .string nm, .string tx, .slice io N icap, .slice ko K kcap] 49) := ⟨_, rfl⟩
  rw [← hW0] at HX0
  have HW0 := Hid.mk hW0
  have hgx0 := HX0.out.c0
  have hst : ∀ s, (none : Option Nat) = some s → s ≤ 8 := (fun s e => by cases e)
  obtain ⟨g, hg⟩ : ∃ g, g = pcW 91 (lnW none (d + 1)) (fun _ => []) it := ⟨_, rfl⟩
  have HG := Hid.mk hg
  clear hg hW0
  go_enter Tryz.func46, Tryz.ntmps46
  go_wp2_with fail
  rw [← HW0.out]
  clear hgx0
  go_loopw [7, 9] (fun sv iv wr => ∃ (k : Nat) (a : ByteArray), k ≤ N ∧ sv = .string a ∧ iv = .int .i64 (k : Int) ∧ Hid (a.data.toList = accW 91 g k) ∧ Hid (Below W0.heap.size W0 wr)) (fun _ iv _ => N - (intOf iv).toNat)
  case atStart => exact ⟨0, ⟨#[91]⟩, Nat.zero_le _, rfl, rfl, rfl, Below.refl _ _⟩
  case round =>
    obtain ⟨k, a, hk, rfl, rfl, HA, HB⟩ := hrel
    have HX := Hid.mk (HX0.out.keep HB.out)
    have g0 := HX.out.c0
    have g3 := HX.out.c3
    have g4 := HX.out.c4
    have hg := HG.out
    have hrow : N ≠ 0 → (rowW 91 93 (lnW none (d + 1)) (lnW none d) (fun _ => []) it N).length = (joinR g N).length + ((lnW none d).length + 1) := by intro h0; unfold rowW; rw [if_neg h0, ← hg]; simp
    by_cases hlt : k < N
    · have hl1 : (k : Int) < (N : Int) := by omega
      have hix : (0 : Int) ≤ (k : Int) ∧ (k : Int) < (N : Int) := by omega
      obtain ⟨b, off, hio, hbl, hrw⟩ := hI.row (by omega)
      subst hio
      have hkt : k < ts.length := by omega
      obtain ⟨v0, v1, v2, v3, v4, ⟨e0, e1, e2, e3, e4⟩, ht⟩ := hrw k hkt
      obtain ⟨ik, inm, itx, iio, iN, iicap, iko, iK, ikcap, rfl, rfl, rfl, rfl, rfl⟩ := ht.shape
      have hwr : Below w.heap.size w wr := HX.out.below
      have HCell : Hid (∀ u, Below wr.heap.size wr u → u.cell? ⟨b, off + k * 5, none⟩ = some (.int .i64 ik) ∧ u.cell? ⟨b, off + k * 5 + 1, none⟩ = some (.string inm) ∧ u.cell? ⟨b, off + k * 5 + 2, none⟩ = some (.string itx) ∧ u.cell? ⟨b, off + k * 5 + 3, none⟩ = some (.slice iio iN iicap) ∧ u.cell? ⟨b, off + k * 5 + 4, none⟩ = some (.slice iko iK ikcap)) := fun u hu => by
        have hbu := hwr.trans (hu.mono hwr.size)
        exact ⟨(hbu.cell (p := ⟨_, _, _⟩) hbl).trans e0, (hbu.cell (p := ⟨_, _, _⟩) hbl).trans e1, (hbu.cell (p := ⟨_, _, _⟩) hbl).trans e2, (hbu.cell (p := ⟨_, _, _⟩) hbl).trans e3, (hbu.cell (p := ⟨_, _, _⟩) hbl).trans e4⟩
      have htm : ts[k] ∈ ts := List.getElem_mem hkt
      obtain ⟨ls, hls⟩ : ∃ ls : ByteArray, ls = ⟨(lnW none (d + 1)).toArray⟩ := ⟨_, rfl⟩
      have hlsl : ls.data.toList = lnW none (d + 1) := by rw [hls]
      have hlz := bsz hlsl
      obtain ⟨ts_, hts_⟩ : ∃ ts_ : ByteArray, ts_ = ⟨(it k).toArray⟩ := ⟨_, rfl⟩
      have htsl : ts_.data.toList = it k := by rw [hts_]
      have htz := bsz htsl
      have hgk : g k = (sepW 91 k ++ lnW none (d + 1) ++ ([] : List UInt8)) ++ it k := by rw [hg]; rfl
      have hjl : (joinR g (k + 1)).length ≤ (joinR g N).length := joinR_le g (by omega)
      have hjk : (joinR g (k + 1)).length = (joinR g k).length + (1 + (lnW none (d + 1)).length + (([] : List UInt8)).length + (it k).length) := by simp only [joinR, List.length_append, hgk, sepW_len]
      have hrl := hrow (by omega)
      simp only [List.length_nil] at hjk
      have HLn : Hid (∀ u, Calls Tryz.prog 93 #[.int .i64 ((d : Int) + 1), .int .i64 (-1)] u fun e w' => e = .returned (.string ls) ∧ Below u.heap.size u w') := fun u => by
        have h1 := w_rline none (d + 1) u hst hd
        rw [← hls] at h1
        rw [show ((d : Int) + 1) = ((d + 1 : Nat) : Int) by omega]
        exact h1
      have HIt : Hid (∀ u, Below W0.heap.size W0 u → Calls Tryz.prog 46 #[.agg #[.int .i64 ik, .string inm, .string itx, .slice iio iN iicap, .slice iko iK ikcap], .int .i64 ((d : Int) + 1), .int .i64 (-1)] u fun e w' => e = .returned (.string ts_) ∧ Below u.heap.size u w') := fun u hu => by
        have hbu : Below w.heap.size w u := (HX0.out.below).trans (hu.mono HX0.out.below.size)
        have hik := hit k hkt
        have h1 := ih ts[k] _ u (d + 1) (ht.keep hbu) (hf _ htm) (hsh _ htm) (hdt _ htm) (by rw [← hik]; omega)
        rw [← hik, ← hts_] at h1
        rw [show ((d : Int) + 1) = ((d + 1 : Nat) : Int) by omega]
        exact h1
      clear hls hts_ htm ht hrw e0 e1 e2 e3 e4 hg hrow
      by_cases hk0 : k = 0
      · have hkp : ¬ (0 : Int) < (k : Int) := by omega
        have hS1 : (a).data.toList = joinR g k ++ sepW 91 k := by
          rw [HA.out]; unfold accW sepW; rw [if_pos hk0, if_pos hk0, hk0]; rfl
        have hz1 := bsz hS1
        have hz0 := bsz HA.out
        simp only [List.length_append, sepW_len] at hz1
        have hp1 : ¬ 9223372036854775807 < (a).size + ls.size := by omega
        have hz2 : (a ++ ls).size = (a).size + ls.size := by rw [ByteArray.size_append]
        have hp6 : ¬ 9223372036854775807 < (a ++ ls).size + ts_.size := by omega
        have hp1e : ¬ 9223372036854775807 < a.size + ls.size := by omega
        have hp6e : ¬ 9223372036854775807 < a.size + ls.size + ts_.size := by omega
        have HFin : Hid ((a ++ ls ++ ts_).data.toList = accW 91 g (k + 1)) := by
          show _ = _
          have e1 : (a ++ ls ++ ts_).data.toList = (a).data.toList ++ ls.data.toList ++ ts_.data.toList := by simp
          rw [e1, hS1, hlsl, htsl]
          unfold accW
          rw [if_neg (by omega)]
          simp only [joinR, hgk, clW, List.append_assoc, List.cons_append, List.nil_append, List.append_nil]
        have HK0 := Hid.mk hk0
        clear hk0
        clear hlz htz hit
        clear hS1 hz1 hz0 hz2 hlsl htsl hgk hjk
        go_wp2_with fail
        refine (HLn.out _).mono ?_
        rintro e w2 ⟨rfl, hb2⟩
        have HX2 := Hid.mk (HX.out.keep hb2)
        have HB2 := Hid.mk (HB.out.trans (hb2.mono HB.out.size))
        have g0 := HX2.out.c0
        have g3 := HX2.out.c3
        have g4 := HX2.out.c4
        obtain ⟨c0, c1, c2, c3, c4⟩ := HCell.out _ hb2
        clear hb2
        go_wp2_with fail
        refine (HIt.out w2 HB2.out).mono ?_
        rintro e w4 ⟨rfl, hb4⟩
        have HB4 := Hid.mk (HB2.out.trans (hb4.mono HB2.out.size))
        clear hb4
        go_wp2_with fail
        go_roundw
        case rel => exact ⟨k + 1, _, hlt, rfl, by go_num, HFin, HB4⟩
        case measure => simp [intOf]; omega
      · have hkp : (0 : Int) < (k : Int) := by omega
        have hS1 : (a ++ ⟨#[44]⟩).data.toList = joinR g k ++ sepW 91 k := by
          rw [show (a ++ ByteArray.mk #[44]).data.toList = a.data.toList ++ [44] by simp, HA.out]; unfold accW sepW; rw [if_neg hk0, if_neg hk0]
        have hz1 := bsz hS1
        have hz0 := bsz HA.out
        simp only [List.length_append, sepW_len] at hz1
        have hp0 : ¬ 9223372036854775807 < a.size + 1 := by rw [ByteArray.size_append] at hz1; omega
        have hp1 : ¬ 9223372036854775807 < (a ++ ⟨#[44]⟩).size + ls.size := by omega
        have hz2 : (a ++ ⟨#[44]⟩ ++ ls).size = (a ++ ⟨#[44]⟩).size + ls.size := by rw [ByteArray.size_append]
        have hp6 : ¬ 9223372036854775807 < (a ++ ⟨#[44]⟩ ++ ls).size + ts_.size := by omega
        have hz1e : (a ++ ByteArray.mk #[44]).size = a.size + 1 := by rw [ByteArray.size_append]; rfl
        have hp1e : ¬ 9223372036854775807 < a.size + 1 + ls.size := by omega
        have hp6e : ¬ 9223372036854775807 < a.size + 1 + ls.size + ts_.size := by omega
        have HFin : Hid ((a ++ ⟨#[44]⟩ ++ ls ++ ts_).data.toList = accW 91 g (k + 1)) := by
          show _ = _
          have e1 : (a ++ ⟨#[44]⟩ ++ ls ++ ts_).data.toList = (a ++ ⟨#[44]⟩).data.toList ++ ls.data.toList ++ ts_.data.toList := by simp
          rw [e1, hS1, hlsl, htsl]
          unfold accW
          rw [if_neg (by omega)]
          simp only [joinR, hgk, clW, List.append_assoc, List.cons_append, List.nil_append, List.append_nil]
        clear hz1e
        clear hlz htz hit
        clear hS1 hz1 hz0 hz2 hlsl htsl hgk hjk
        go_wp2_with fail
        refine (HLn.out _).mono ?_
        rintro e w2 ⟨rfl, hb2⟩
        have HX2 := Hid.mk (HX.out.keep hb2)
        have HB2 := Hid.mk (HB.out.trans (hb2.mono HB.out.size))
        have g0 := HX2.out.c0
        have g3 := HX2.out.c3
        have g4 := HX2.out.c4
        obtain ⟨c0, c1, c2, c3, c4⟩ := HCell.out _ hb2
        clear hb2
        go_wp2_with fail
        refine (HIt.out w2 HB2.out).mono ?_
        rintro e w4 ⟨rfl, hb4⟩
        have HB4 := Hid.mk (HB2.out.trans (hb4.mono HB2.out.size))
        clear hb4
        go_wp2_with fail
        go_roundw
        case rel => exact ⟨k + 1, _, hlt, rfl, by go_num, HFin, HB4⟩
        case measure => simp [intOf]; omega
    · have hl1 : ¬ (k : Int) < (N : Int) := by omega
      obtain rfl : k = N := by omega
      have HA0 := HA.out
      by_cases h0 : k = 0
      · subst h0
        have hnn : ¬ (0 : Int) < ((0 : Nat) : Int) := by omega
        have haz := bsz HA0
        have hacc : accW 91 g 0 = [91] := rfl
        rw [hacc] at haz HA0
        have hp1 : ¬ 9223372036854775807 < a.size + 1 := by rw [haz]; decide
        have HFin : Hid (a ++ ⟨#[93]⟩ = ⟨(rowW 91 93 (lnW none (d + 1)) (lnW none d) (fun _ => []) it 0).toArray⟩) := by
          show _ = _
          rw [bmk HA0]; rfl
        clear HA0 haz hrow hg hacc hlen hit
        go_wp2_with fail
        go_ret
        exact ⟨by rw [HFin.out]; rfl, HX.out.below⟩
      · have hnn : (0 : Int) < (k : Int) := by omega
        have hrl := hrow h0
        have hacc : accW 91 g k = joinR g k := by unfold accW; rw [if_neg h0]
        rw [hacc] at HA0
        have haz := bsz HA0
        obtain ⟨ls, hls⟩ : ∃ ls : ByteArray, ls = ⟨(lnW none d).toArray⟩ := ⟨_, rfl⟩
        have hlsl : ls.data.toList = lnW none d := by rw [hls]
        have hlz := bsz hlsl
        have HLn : Hid (∀ u, Calls Tryz.prog 93 #[.int .i64 (d : Int), .int .i64 (-1)] u fun e w' => e = .returned (.string ls) ∧ Below u.heap.size u w') := fun u => by
          have h1 := w_rline none d u hst (by omega)
          rw [← hls] at h1
          exact h1
        have hp1 : ¬ 9223372036854775807 < a.size + ls.size := by omega
        have hp2 : ¬ 9223372036854775807 < (a ++ ls).size + 1 := by rw [ByteArray.size_append]; omega
        have hp2e : ¬ 9223372036854775807 < a.size + ls.size + 1 := by omega
        have HFin : Hid (a ++ ls ++ ⟨#[93]⟩ = ⟨(rowW 91 93 (lnW none (d + 1)) (lnW none d) (fun _ => []) it k).toArray⟩) := by
          show _ = _
          refine bmk ?_
          unfold rowW
          rw [if_neg h0, ← hg]
          simp [HA0, hlsl]
        clear HA0 haz hrow hg hacc hlen hit hls hlsl hlz hrl
        go_wp2_with fail
        refine (HLn.out _).mono ?_
        rintro e w2 ⟨rfl, hb2⟩
        have HB2 := Hid.mk (HX.out.keep hb2).below
        clear hb2
        go_wp2_with fail
        go_ret
        exact ⟨by rw [HFin.out]; rfl, HB2.out⟩
end Go.Proofs.YtfjmgccbpiolhaaGreatDoor
namespace Go.Proofs.YtfjmgccbpiolhaaGreatDoor
open Go.RowKit
set_option linter.unusedVariables false
set_option linter.unusedSimpArgs false

set_option maxRecDepth 100000 in
set_option maxHeartbeats 3200000 in
theorem rw_5l (h : Nat) (sp : Nat) (hsp : sp ≤ 8) (ih : RwOk6 (some sp) h) (nm tx : ByteArray) (io : Option Addr) (N icap : Nat) (ko : Option Addr) (K kcap : Nat) (w : World) (ts : List VT) (hts : ts.length = N) (hI : IIn w h io ts) (hN : N ≤ icap) (hN2 : N ≤ 140737488355328) (hf : ∀ t ∈ ts, formN h t = true) (hsh : ∀ t ∈ ts, ShV h t) (d : Nat) (hd : d + 1 ≤ 1099511627776) (hdt : ∀ t ∈ ts, d + 1 + szN h t ≤ 1099511627776)
    (it : Nat → List UInt8) (hit : ∀ i, (hi : i < ts.length) → it i = wrV (some sp) h (d + 1) ts[i]) (hlen : (rowW 91 93 (lnW (some sp) (d + 1)) (lnW (some sp) d) (fun _ => []) it N).length ≤ 140737488355328) :
    Calls Tryz.prog 46 #[.agg #[.int .i64 5, .string nm, .string tx, .slice io N icap, .slice ko K kcap], .int .i64 (d : Int), .int .i64 (sp : Int)] w fun e w' => e = .returned (.string ⟨(rowW 91 93 (lnW (some sp) (d + 1)) (lnW (some sp) d) (fun _ => []) it N).toArray⟩) ∧ Below w.heap.size w w' := by
  have HX0 := Hid.mk (vbx_new w (.int .i64 5) (.string nm) (.string tx) (.slice io N icap) (.slice ko K kcap))
  obtain ⟨W0, hW0⟩ : ∃ W0, W0 = w.alloc (.cells #[.int .i64 5, .string nm, .string tx, .slice io N icap, .slice ko K kcap] 49) := ⟨_, rfl⟩
  rw [← hW0] at HX0
  have HW0 := Hid.mk hW0
  have hgx0 := HX0.out.c0
  have hst : ∀ s, ((some sp) : Option Nat) = some s → s ≤ 8 := (fun s e => by cases e; exact hsp)
  obtain ⟨g, hg⟩ : ∃ g, g = pcW 91 (lnW (some sp) (d + 1)) (fun _ => []) it := ⟨_, rfl⟩
  have HG := Hid.mk hg
  clear hg hW0
  have hs0 : (0 : Int) ≤ (sp : Int) := by omega
  go_enter Tryz.func46, Tryz.ntmps46
  go_wp2_with fail
  rw [← HW0.out]
  clear hgx0
  go_loopw [7, 9] (fun sv iv wr => ∃ (k : Nat) (a : ByteArray), k ≤ N ∧ sv = .string a ∧ iv = .int .i64 (k : Int) ∧ Hid (a.data.toList = accW 91 g k) ∧ Hid (Below W0.heap.size W0 wr)) (fun _ iv _ => N - (intOf iv).toNat)
  case atStart => exact ⟨0, ⟨#[91]⟩, Nat.zero_le _, rfl, rfl, rfl, Below.refl _ _⟩
  case round =>
    obtain ⟨k, a, hk, rfl, rfl, HA, HB⟩ := hrel
    have HX := Hid.mk (HX0.out.keep HB.out)
    have g0 := HX.out.c0
    have g3 := HX.out.c3
    have g4 := HX.out.c4
    have hg := HG.out
    have hrow : N ≠ 0 → (rowW 91 93 (lnW (some sp) (d + 1)) (lnW (some sp) d) (fun _ => []) it N).length = (joinR g N).length + ((lnW (some sp) d).length + 1) := by intro h0; unfold rowW; rw [if_neg h0, ← hg]; simp
    by_cases hlt : k < N
    · have hl1 : (k : Int) < (N : Int) := by omega
      have hix : (0 : Int) ≤ (k : Int) ∧ (k : Int) < (N : Int) := by omega
      obtain ⟨b, off, hio, hbl, hrw⟩ := hI.row (by omega)
      subst hio
      have hkt : k < ts.length := by omega
      obtain ⟨v0, v1, v2, v3, v4, ⟨e0, e1, e2, e3, e4⟩, ht⟩ := hrw k hkt
      obtain ⟨ik, inm, itx, iio, iN, iicap, iko, iK, ikcap, rfl, rfl, rfl, rfl, rfl⟩ := ht.shape
      have hwr : Below w.heap.size w wr := HX.out.below
      have HCell : Hid (∀ u, Below wr.heap.size wr u → u.cell? ⟨b, off + k * 5, none⟩ = some (.int .i64 ik) ∧ u.cell? ⟨b, off + k * 5 + 1, none⟩ = some (.string inm) ∧ u.cell? ⟨b, off + k * 5 + 2, none⟩ = some (.string itx) ∧ u.cell? ⟨b, off + k * 5 + 3, none⟩ = some (.slice iio iN iicap) ∧ u.cell? ⟨b, off + k * 5 + 4, none⟩ = some (.slice iko iK ikcap)) := fun u hu => by
        have hbu := hwr.trans (hu.mono hwr.size)
        exact ⟨(hbu.cell (p := ⟨_, _, _⟩) hbl).trans e0, (hbu.cell (p := ⟨_, _, _⟩) hbl).trans e1, (hbu.cell (p := ⟨_, _, _⟩) hbl).trans e2, (hbu.cell (p := ⟨_, _, _⟩) hbl).trans e3, (hbu.cell (p := ⟨_, _, _⟩) hbl).trans e4⟩
      have htm : ts[k] ∈ ts := List.getElem_mem hkt
      obtain ⟨ls, hls⟩ : ∃ ls : ByteArray, ls = ⟨(lnW (some sp) (d + 1)).toArray⟩ := ⟨_, rfl⟩
      have hlsl : ls.data.toList = lnW (some sp) (d + 1) := by rw [hls]
      have hlz := bsz hlsl
      obtain ⟨ts_, hts_⟩ : ∃ ts_ : ByteArray, ts_ = ⟨(it k).toArray⟩ := ⟨_, rfl⟩
      have htsl : ts_.data.toList = it k := by rw [hts_]
      have htz := bsz htsl
      have hgk : g k = (sepW 91 k ++ lnW (some sp) (d + 1) ++ ([] : List UInt8)) ++ it k := by rw [hg]; rfl
      have hjl : (joinR g (k + 1)).length ≤ (joinR g N).length := joinR_le g (by omega)
      have hjk : (joinR g (k + 1)).length = (joinR g k).length + (1 + (lnW (some sp) (d + 1)).length + (([] : List UInt8)).length + (it k).length) := by simp only [joinR, List.length_append, hgk, sepW_len]
      have hrl := hrow (by omega)
      simp only [List.length_nil] at hjk
      have HLn : Hid (∀ u, Calls Tryz.prog 93 #[.int .i64 ((d : Int) + 1), .int .i64 (sp : Int)] u fun e w' => e = .returned (.string ls) ∧ Below u.heap.size u w') := fun u => by
        have h1 := w_rline (some sp) (d + 1) u hst hd
        rw [← hls] at h1
        rw [show ((d : Int) + 1) = ((d + 1 : Nat) : Int) by omega]
        exact h1
      have HIt : Hid (∀ u, Below W0.heap.size W0 u → Calls Tryz.prog 46 #[.agg #[.int .i64 ik, .string inm, .string itx, .slice iio iN iicap, .slice iko iK ikcap], .int .i64 ((d : Int) + 1), .int .i64 (sp : Int)] u fun e w' => e = .returned (.string ts_) ∧ Below u.heap.size u w') := fun u hu => by
        have hbu : Below w.heap.size w u := (HX0.out.below).trans (hu.mono HX0.out.below.size)
        have hik := hit k hkt
        have h1 := ih ts[k] _ u (d + 1) (ht.keep hbu) (hf _ htm) (hsh _ htm) (hdt _ htm) (by rw [← hik]; omega)
        rw [← hik, ← hts_] at h1
        rw [show ((d : Int) + 1) = ((d + 1 : Nat) : Int) by omega]
        exact h1
      clear hls hts_ htm ht hrw e0 e1 e2 e3 e4 hg hrow
      by_cases hk0 : k = 0
      · have hkp : ¬ (0 : Int) < (k : Int) := by omega
        have hS1 : (a).data.toList = joinR g k ++ sepW 91 k := by
          rw [HA.out]; unfold accW sepW; rw [if_pos hk0, if_pos hk0, hk0]; rfl
        have hz1 := bsz hS1
        have hz0 := bsz HA.out
        simp only [List.length_append, sepW_len] at hz1
        have hp1 : ¬ 9223372036854775807 < (a).size + ls.size := by omega
        have hz2 : (a ++ ls).size = (a).size + ls.size := by rw [ByteArray.size_append]
        have hp6 : ¬ 9223372036854775807 < (a ++ ls).size + ts_.size := by omega
        have hp1e : ¬ 9223372036854775807 < a.size + ls.size := by omega
        have hp6e : ¬ 9223372036854775807 < a.size + ls.size + ts_.size := by omega
        have HFin : Hid ((a ++ ls ++ ts_).data.toList = accW 91 g (k + 1)) := by
          show _ = _
          have e1 : (a ++ ls ++ ts_).data.toList = (a).data.toList ++ ls.data.toList ++ ts_.data.toList := by simp
          rw [e1, hS1, hlsl, htsl]
          unfold accW
          rw [if_neg (by omega)]
          simp only [joinR, hgk, clW, List.append_assoc, List.cons_append, List.nil_append, List.append_nil]
        have HK0 := Hid.mk hk0
        clear hk0
        clear hlz htz hit
        clear hS1 hz1 hz0 hz2 hlsl htsl hgk hjk
        go_wp2_with fail
        refine (HLn.out _).mono ?_
        rintro e w2 ⟨rfl, hb2⟩
        have HX2 := Hid.mk (HX.out.keep hb2)
        have HB2 := Hid.mk (HB.out.trans (hb2.mono HB.out.size))
        have g0 := HX2.out.c0
        have g3 := HX2.out.c3
        have g4 := HX2.out.c4
        obtain ⟨c0, c1, c2, c3, c4⟩ := HCell.out _ hb2
        clear hb2
        go_wp2_with fail
        refine (HIt.out w2 HB2.out).mono ?_
        rintro e w4 ⟨rfl, hb4⟩
        have HB4 := Hid.mk (HB2.out.trans (hb4.mono HB2.out.size))
        clear hb4
        go_wp2_with fail
        go_roundw
        case rel => exact ⟨k + 1, _, hlt, rfl, by go_num, HFin, HB4⟩
        case measure => simp [intOf]; omega
      · have hkp : (0 : Int) < (k : Int) := by omega
        have hS1 : (a ++ ⟨#[44]⟩).data.toList = joinR g k ++ sepW 91 k := by
          rw [show (a ++ ByteArray.mk #[44]).data.toList = a.data.toList ++ [44] by simp, HA.out]; unfold accW sepW; rw [if_neg hk0, if_neg hk0]
        have hz1 := bsz hS1
        have hz0 := bsz HA.out
        simp only [List.length_append, sepW_len] at hz1
        have hp0 : ¬ 9223372036854775807 < a.size + 1 := by rw [ByteArray.size_append] at hz1; omega
        have hp1 : ¬ 9223372036854775807 < (a ++ ⟨#[44]⟩).size + ls.size := by omega
        have hz2 : (a ++ ⟨#[44]⟩ ++ ls).size = (a ++ ⟨#[44]⟩).size + ls.size := by rw [ByteArray.size_append]
        have hp6 : ¬ 9223372036854775807 < (a ++ ⟨#[44]⟩ ++ ls).size + ts_.size := by omega
        have hz1e : (a ++ ByteArray.mk #[44]).size = a.size + 1 := by rw [ByteArray.size_append]; rfl
        have hp1e : ¬ 9223372036854775807 < a.size + 1 + ls.size := by omega
        have hp6e : ¬ 9223372036854775807 < a.size + 1 + ls.size + ts_.size := by omega
        have HFin : Hid ((a ++ ⟨#[44]⟩ ++ ls ++ ts_).data.toList = accW 91 g (k + 1)) := by
          show _ = _
          have e1 : (a ++ ⟨#[44]⟩ ++ ls ++ ts_).data.toList = (a ++ ⟨#[44]⟩).data.toList ++ ls.data.toList ++ ts_.data.toList := by simp
          rw [e1, hS1, hlsl, htsl]
          unfold accW
          rw [if_neg (by omega)]
          simp only [joinR, hgk, clW, List.append_assoc, List.cons_append, List.nil_append, List.append_nil]
        clear hz1e
        clear hlz htz hit
        clear hS1 hz1 hz0 hz2 hlsl htsl hgk hjk
        go_wp2_with fail
        refine (HLn.out _).mono ?_
        rintro e w2 ⟨rfl, hb2⟩
        have HX2 := Hid.mk (HX.out.keep hb2)
        have HB2 := Hid.mk (HB.out.trans (hb2.mono HB.out.size))
        have g0 := HX2.out.c0
        have g3 := HX2.out.c3
        have g4 := HX2.out.c4
        obtain ⟨c0, c1, c2, c3, c4⟩ := HCell.out _ hb2
        clear hb2
        go_wp2_with fail
        refine (HIt.out w2 HB2.out).mono ?_
        rintro e w4 ⟨rfl, hb4⟩
        have HB4 := Hid.mk (HB2.out.trans (hb4.mono HB2.out.size))
        clear hb4
        go_wp2_with fail
        go_roundw
        case rel => exact ⟨k + 1, _, hlt, rfl, by go_num, HFin, HB4⟩
        case measure => simp [intOf]; omega
    · have hl1 : ¬ (k : Int) < (N : Int) := by omega
      obtain rfl : k = N := by omega
      have HA0 := HA.out
      by_cases h0 : k = 0
      · subst h0
        have hnn : ¬ (0 : Int) < ((0 : Nat) : Int) := by omega
        have haz := bsz HA0
        have hacc : accW 91 g 0 = [91] := rfl
        rw [hacc] at haz HA0
        have hp1 : ¬ 9223372036854775807 < a.size + 1 := by rw [haz]; decide
        have HFin : Hid (a ++ ⟨#[93]⟩ = ⟨(rowW 91 93 (lnW (some sp) (d + 1)) (lnW (some sp) d) (fun _ => []) it 0).toArray⟩) := by
          show _ = _
          rw [bmk HA0]; rfl
        clear HA0 haz hrow hg hacc hlen hit
        go_wp2_with fail
        go_ret
        exact ⟨by rw [HFin.out]; rfl, HX.out.below⟩
      · have hnn : (0 : Int) < (k : Int) := by omega
        have hrl := hrow h0
        have hacc : accW 91 g k = joinR g k := by unfold accW; rw [if_neg h0]
        rw [hacc] at HA0
        have haz := bsz HA0
        obtain ⟨ls, hls⟩ : ∃ ls : ByteArray, ls = ⟨(lnW (some sp) d).toArray⟩ := ⟨_, rfl⟩
        have hlsl : ls.data.toList = lnW (some sp) d := by rw [hls]
        have hlz := bsz hlsl
        have HLn : Hid (∀ u, Calls Tryz.prog 93 #[.int .i64 (d : Int), .int .i64 (sp : Int)] u fun e w' => e = .returned (.string ls) ∧ Below u.heap.size u w') := fun u => by
          have h1 := w_rline (some sp) d u hst (by omega)
          rw [← hls] at h1
          exact h1
        have hp1 : ¬ 9223372036854775807 < a.size + ls.size := by omega
        have hp2 : ¬ 9223372036854775807 < (a ++ ls).size + 1 := by rw [ByteArray.size_append]; omega
        have hp2e : ¬ 9223372036854775807 < a.size + ls.size + 1 := by omega
        have HFin : Hid (a ++ ls ++ ⟨#[93]⟩ = ⟨(rowW 91 93 (lnW (some sp) (d + 1)) (lnW (some sp) d) (fun _ => []) it k).toArray⟩) := by
          show _ = _
          refine bmk ?_
          unfold rowW
          rw [if_neg h0, ← hg]
          simp [HA0, hlsl]
        clear HA0 haz hrow hg hacc hlen hit hls hlsl hlz hrl
        go_wp2_with fail
        refine (HLn.out _).mono ?_
        rintro e w2 ⟨rfl, hb2⟩
        have HB2 := Hid.mk (HX.out.keep hb2).below
        clear hb2
        go_wp2_with fail
        go_ret
        exact ⟨by rw [HFin.out]; rfl, HB2.out⟩
end Go.Proofs.YtfjmgccbpiolhaaGreatDoor
