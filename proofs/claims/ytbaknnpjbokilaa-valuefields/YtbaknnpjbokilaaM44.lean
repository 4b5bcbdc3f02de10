import Derived.Test.YtbaknnpjbokilaaM42
import Derived.Test.YtbaknnpjbokilaaM43
import Derived.Test.YtbaknnpjbokilaaM30
import Derived.Test.YtbaknnpjbokilaaM34
namespace Go.Proofs.Ytbaknnpjbokilaa
open Go.RowKit Go.Maps
set_option linter.unusedVariables false
set_option linter.unusedSimpArgs false

/-- a well shaped object of a size -/
structure SmO (h n : Nat) (T : VT) : Prop where
  kind : T.kind = 6
  form : formN (h + 1) T = true
  sz : szN (h + 1) T ≤ n
theorem SmO.obj {h n : Nat} {T : VT} (s : SmO h n T) : Obj6 T := (form_obj s.form s.kind).1
theorem SmO.keys {h n : Nat} {T : VT} (s : SmO h n T) : T.keys.length ≤ n := by
  have h2 : 1 + T.keys.length + sumL (T.items.map (szN h)) ≤ n := s.sz
  omega
theorem SmO.item {h n : Nat} {T : VT} (s : SmO h n T) : ∀ x ∈ T.items, szN h x ≤ n := fun x hx => by
  have h2 : 1 + T.keys.length + sumL (T.items.map (szN h)) ≤ n := s.sz
  have h3 := sumL_mem (List.mem_map.2 ⟨_, hx, rfl⟩ : szN h x ∈ T.items.map (szN h))
  omega
theorem SmO.mg {h n m : Nat} {A B : VT} (a : SmO h n A) (b : SmO h m B) : SmO h (n + m) (mg A B) :=
  ⟨(mg_obj a.obj b.obj).kind, mg_form a.form b.form a.kind b.kind, Nat.le_trans (mg_sz a.obj.len b.obj.len) (Nat.add_le_add a.sz b.sz)⟩
/-- an object of one field -/
def fldT (k : ByteArray) (t : VT) : VT := .mk 6 .empty .empty [t] [k]
theorem fldT_flds (k : ByteArray) (t : VT) : flds (fldT k t) = [(k, t)] := rfl
theorem fldT_sm {h n : Nat} {k : ByteArray} {t : VT} (hk : okB k.data.toList = true) (ht : formN h t = true) (hs : szN h t ≤ n) : SmO h (n + 2) (fldT k t) := by
  have ho : Obj6 (fldT k t) := ⟨rfl, rfl, rfl, rfl, List.pairwise_singleton _ _⟩
  refine ⟨rfl, obj_form ho (oK_all.2 fun x hx => ?_) (fun x hx => ?_), ?_⟩
  · rw [List.mem_singleton.1 hx]; exact hk
  · rw [List.mem_singleton.1 hx]; exact ht
  · show 1 + 1 + (szN h t + 0) ≤ n + 2
    omega
/-- one item under a key -/
theorem flds_one {T : VT} (o : Obj6 T) {k : ByteArray} {s t : VT} (hs : (k, s) ∈ flds T) (ht : (k, t) ∈ flds T) : s = t := by
  have hr : ((flds T).map (·.1)).Pairwise kL := by rw [flds_keys o.len]; exact o.rise
  generalize flds T = l at *
  induction l with
  | nil => cases hs
  | cons x r ih =>
    rw [List.map_cons, List.pairwise_cons] at hr
    rcases List.mem_cons.1 hs with h1 | h1 <;> rcases List.mem_cons.1 ht with h2 | h2
    · rw [← h1] at h2; exact (Prod.mk.inj h2).2.symm
    · exact absurd (hr.1 k (List.mem_map.2 ⟨_, h2, rfl⟩)) (by rw [← h1]; exact kL.irr)
    · exact absurd (hr.1 k (List.mem_map.2 ⟨_, h1, rfl⟩)) (by rw [← h2]; exact kL.irr)
    · exact ih h1 h2 hr.2
/-- an object without a field -/
def woT (T : VT) (k : ByteArray) : VT := ofF ((flds T).filter fun p => !(p.1.toList == k.toList))
theorem woT_mem {T : VT} {k : ByteArray} {x : ByteArray × VT} : x ∈ flds (woT T k) ↔ x ∈ flds T ∧ x.1 ≠ k := by
  unfold woT
  rw [ofF_flds, List.mem_filter]
  have : (!(x.1.toList == k.toList)) = true ↔ x.1 ≠ k := by
    rw [Bool.not_eq_true']
    constructor
    · exact fun h => beq_no h
    · intro h
      cases e : (x.1.toList == k.toList) with
      | false => rfl
      | true => exact absurd (beq_yes e) h
  rw [this]
theorem woT_obj {T : VT} (o : Obj6 T) (k : ByteArray) : Obj6 (woT T k) := by
  have h1 : ((flds T).map (·.1)).Pairwise kL := by rw [flds_keys o.len]; exact o.rise
  refine ⟨rfl, rfl, rfl, by show (List.map _ _).length = (List.map _ _).length; simp, ?_⟩
  exact h1.sublist (List.filter_sublist.map _)
theorem sumL_sub {f : VT → Nat} {l m : List VT} (h : l.Sublist m) : sumL (l.map f) ≤ sumL (m.map f) := by
  induction h with
  | slnil => exact Nat.le_refl _
  | cons a _ ih => exact Nat.le_trans ih (by show _ ≤ f a + _; omega)
  | cons_cons a _ ih => show f a + _ ≤ f a + _; omega
theorem woT_sm {h n : Nat} {T : VT} (s : SmO h n T) (k : ByteArray) : SmO h n (woT T k) := by
  obtain ⟨o, hk, hi⟩ := form_obj s.form s.kind
  have hsub : ((flds T).filter fun p => !(p.1.toList == k.toList)).Sublist (flds T) := List.filter_sublist
  have si := hsub.map (·.2)
  have sk := hsub.map (·.1)
  rw [flds_items o.len] at si
  rw [flds_keys o.len] at sk
  refine ⟨rfl, obj_form (woT_obj o k) (oK_all.2 fun x hx => oK_all.1 hk x (sk.subset hx)) (fun x hx => hi x (si.subset hx)), ?_⟩
  have h1 : 1 + T.keys.length + sumL (T.items.map (szN h)) ≤ n := s.sz
  have h2 := sk.length_le
  have h3 := sumL_sub (f := szN h) si
  show 1 + (((flds T).filter fun p => !(p.1.toList == k.toList)).map (·.1)).length + sumL ((((flds T).filter fun p => !(p.1.toList == k.toList)).map (·.2)).map (szN h)) ≤ n
  omega
/-- what was put there is what is taken out -/
theorem woT_mg {T : VT} (o : Obj6 T) {k : ByteArray} {t : VT} (of : Obj6 (fldT k t)) : woT (mg T (fldT k t)) k = woT T k := by
  refine obj_ext (woT_obj (mg_obj o of) k) (woT_obj o k) fun x => ?_
  rw [woT_mem, woT_mem, mg_mem o of, fldT_flds]
  constructor
  · rintro ⟨h1 | ⟨h1, _⟩, h2⟩
    · rw [List.mem_singleton.1 h1] at h2; exact absurd rfl h2
    · exact ⟨h1, h2⟩
  · rintro ⟨h1, h2⟩
    exact ⟨.inr ⟨h1, by show x.1 ∉ [k]; simpa using h2⟩, h2⟩
theorem woT_key {T : VT} (o : Obj6 T) (k : ByteArray) : k ∉ (woT T k).keys := fun h => by
  obtain ⟨t, ht⟩ := (mem_keys (woT_obj o k).len).1 h
  exact (woT_mem.1 ht).2 rfl
/-- another name has what it had -/
theorem mg_fld {T : VT} (o : Obj6 T) {k n : ByteArray} {t s : VT} (of : Obj6 (fldT k t)) (hn : n ≠ k) : (n, s) ∈ flds (mg T (fldT k t)) ↔ (n, s) ∈ flds T := by
  rw [mg_mem o of, fldT_flds]
  constructor
  · rintro (h1 | ⟨h1, _⟩)
    · exact absurd (Prod.mk.inj (List.mem_singleton.1 h1)).1 hn
    · exact h1
  · exact fun h1 => .inr ⟨h1, by show n ∉ [k]; simpa using hn⟩
theorem mg_put {T : VT} (o : Obj6 T) {k : ByteArray} {t : VT} (of : Obj6 (fldT k t)) : (k, t) ∈ flds (mg T (fldT k t)) := by
  rw [mg_mem o of, fldT_flds]; exact .inl (List.mem_singleton.2 rfl)
/-- places that stay -/
def Fp (ky : Nat → ByteArray) (k : ByteArray) (N : Nat) : List Nat := (List.range N).filter fun i => !((ky i).toList == k.toList)
theorem Fp_up (ky : Nat → ByteArray) (k : ByteArray) (N : Nat) : Fp ky k (N + 1) = Fp ky k N ++ (if (!((ky N).toList == k.toList)) = true then [N] else []) := by
  unfold Fp
  rw [List.range_succ, List.filter_append]
  congr 1
  simp only [List.filter_cons, List.filter_nil]
theorem Fp_pre (ky : Nat → ByteArray) (k : ByteArray) (i : Nat) : ∀ d, ∃ r, Fp ky k (i + d) = Fp ky k i ++ r
  | 0 => ⟨[], by rw [List.append_nil]; rfl⟩
  | d + 1 => by
    obtain ⟨r, hr⟩ := Fp_pre ky k i d
    exact ⟨r ++ (if (!((ky (i + d)).toList == k.toList)) = true then [i + d] else []), by rw [← Nat.add_assoc, Fp_up, hr, List.append_assoc]⟩
theorem Fp_at {ky : Nat → ByteArray} {k : ByteArray} {i N : Nat} (hi : i < N) (hk : (!((ky i).toList == k.toList)) = true) : (Fp ky k i).length < (Fp ky k N).length ∧ (Fp ky k N).getD (Fp ky k i).length 0 = i ∧ (Fp ky k (i + 1)).length = (Fp ky k i).length + 1 := by
  have h1 : Fp ky k (i + 1) = Fp ky k i ++ [i] := by rw [Fp_up, if_pos hk]
  obtain ⟨r, hr⟩ := Fp_pre ky k (i + 1) (N - (i + 1))
  rw [show i + 1 + (N - (i + 1)) = N from by omega, h1] at hr
  refine ⟨by rw [hr]; simp <;> omega, ?_, by rw [h1]; simp⟩
  rw [hr, List.getD_eq_getElem?_getD, List.append_assoc, List.getElem?_append_right (Nat.le_refl _), Nat.sub_self]
  try rfl
theorem Fp_no {ky : Nat → ByteArray} {k : ByteArray} {i : Nat} (hk : (!((ky i).toList == k.toList)) = false) : (Fp ky k (i + 1)).length = (Fp ky k i).length := by
  rw [Fp_up, if_neg (by rw [hk]; decide), List.append_nil]
theorem Fp_len (ky : Nat → ByteArray) (k : ByteArray) (N : Nat) : (Fp ky k N).length ≤ N := by
  have := List.length_filter_le (fun i => !((ky i).toList == k.toList)) (List.range N)
  rw [List.length_range] at this
  exact this
theorem Fp_lt {ky : Nat → ByteArray} {k : ByteArray} {N j : Nat} (hj : j < (Fp ky k N).length) : (Fp ky k N).getD j 0 < N := by
  rw [List.getD_eq_getElem?_getD, List.getElem?_eq_getElem hj]
  exact List.mem_range.1 (List.mem_filter.1 (List.getElem_mem hj)).1
/-- the tree that stays -/
theorem woT_of {T : VT} (o : Obj6 T) (k : ByteArray) : VT.mk 6 .empty .empty ((List.range (Fp (fun i => T.keys.getD i .empty) k T.keys.length).length).map fun j => T.items.getD ((Fp (fun i => T.keys.getD i .empty) k T.keys.length).getD j 0) (.mk 0 .empty .empty [] [])) ((List.range (Fp (fun i => T.keys.getD i .empty) k T.keys.length).length).map fun j => T.keys.getD ((Fp (fun i => T.keys.getD i .empty) k T.keys.length).getD j 0) .empty) = woT T k := by
  have hf : flds T = (List.range T.keys.length).map fun i => (T.keys.getD i .empty, T.items.getD i (.mk 0 .empty .empty [] [])) := by
    apply List.ext_getElem
    · unfold flds; rw [List.length_zip, List.length_map, List.length_range, ← o.len, Nat.min_self]
    · intro i h1 h2
      have h3 : i < T.keys.length := by simpa using h2
      have h4 : i < T.items.length := by rw [← o.len]; exact h3
      have e : (flds T)[i] = (T.keys[i], T.items[i]) := List.getElem_zip
      rw [e, List.getElem_map, List.getElem_range, getD_key h3]
      simp [List.getD, h4]
  unfold woT ofF
  rw [hf, List.filter_map, range_getD (Fp (fun i => T.keys.getD i .empty) k T.keys.length) 0 (fun i => T.items.getD i (.mk 0 .empty .empty [] [])), range_getD (Fp (fun i => T.keys.getD i .empty) k T.keys.length) 0 (fun i => T.keys.getD i .empty), List.map_map, List.map_map]
  rfl
end Go.Proofs.Ytbaknnpjbokilaa
namespace Go.Proofs.Ytbaknnpjbokilaa
open Go.RowKit Go.Maps Go.Sort Go.Shelf
set_option linter.unusedVariables false
set_option linter.unusedSimpArgs false
attribute [local go_sem] Oper.semAt_some

theorem yieldO_any {m m' : Nat} {P : Program} {l : Nat} {args : Array Value} {W : World} {R : Ending → World → Prop} (h : YieldAt Fence.wide m P l args W R) : YieldAt Fence.wide m' P l args W R := by
  obtain ⟨fn, tmps, assign, body, hy, h1, h2⟩ := h
  exact ⟨fn, tmps, assign, body, hy, h1, fun c cs _ => h2 c cs (fun d hd => by cases hd)⟩
/-- what others' iterator holds beside the object: the name, and the yield -/
structure OtS (W : World) (B Y A2 l : Nat) (key : ByteArray) : Prop where
  nm : W.heap[A2]? = some (.cells #[.string key] 9 (0, 0))
  yb : W.heap[Y]? = some (.cells #[.func (.yield l) #[] #[]] 56 (0, 0))
  far : (A2 ≠ B ∧ ¬ rwAt W B A2) ∧ Y ≠ B ∧ ¬ rwAt W B Y
theorem OtS.keep {W W' : World} {n₀ B Y A2 l : Nat} {key : ByteArray} (h : OtS W B Y A2 l key) (hk : KpG n₀ B W W') : OtS W' B Y A2 l key := by
  have no : ∀ b o, W.heap[b]? = some o → ¬ rwAt W B b → ¬ rwAt W' B b := fun b o ho hn hr => by
    rcases hk.rows b hr with h1 | h1
    · exact hn h1
    · have := (Array.getElem?_eq_some_iff.1 ho).1; omega
  exact ⟨hk.same A2 _ h.far.1.1 h.far.1.2 h.nm rfl, hk.same Y _ h.far.2.1 h.far.2.2 h.yb rfl, ⟨h.far.1.1, no _ _ h.nm h.far.1.2⟩, h.far.2.1, no _ _ h.yb h.far.2.2⟩

set_option maxRecDepth 100000 in
set_option maxHeartbeats 12800000 in
theorem others1_in (l n₀ B K A1 A2 N : Nat) (x0 : Int) (x1 x2 : ByteArray) (io : Option Addr) (ic : Nat) (ko : Option Addr) (kc : Nat) (ky : Nat → ByteArray) (c : Nat → Fin 5 → Value) (key : ByteArray) (hN : N ≤ ic ∧ N ≤ kc) (hN2 : N ≤ 100000) (hone : ∀ i, i < N → OneC (c i))
    (J Jx : List { i : Nat // i < (Fp ky key N).length } → World → Prop) (W : World) (hn0 : n₀ ≤ W.heap.size) (hKW : K ≤ W.heap.size + 2) (hBl : B < W.heap.size) (hrw : ∀ b, ¬ rwAt W B b) (hS0 : InS W n₀ B A1 N (.int .i64 x0) (.string x1) (.string x2) io ic ko kc ky c) (hnm : W.heap[A2]? = some (.cells #[.string key] 9 (0, 0))) (hA2 : A2 ≠ B) (hJ : OwnFrom W.heap.size J) (hJx : OwnFrom W.heap.size Jx)
    (hY : ∀ pre (x : { i : Nat // i < (Fp ky key N).length }) W1, J pre W1 → pre.length < (Fp ky key N).length → True → YieldAt Fence.wide (6 - 1) Try.prog l (encK (fun j => ky ((Fp ky key N).getD j 0)) (fun j => c ((Fp ky key N).getD j 0)) x.1) W1 fun e W' =>
      (e = .returned (.bool true) ∧ J (pre ++ [x]) W' ∧ KpX n₀ B K W1 W') ∨ (e = .returned (.bool false) ∧ Jx (pre ++ [x]) W' ∧ KpX n₀ B K W1 W')) (h0 : J [] W) :
    CallsIn Fence.wide 6 Try.prog 32 #[.func (.yield l) #[] #[], .pointer (some ⟨A1, 0, none⟩), .pointer (some ⟨A2, 0, none⟩)] W fun e W' => (∃ v, e = .returned v) ∧
      ((∃ xs, xs.map (·.1) = List.range (Fp ky key N).length ∧ J xs W') ∨ (∃ pre, True ∧ Jx pre W')) := by
  have HJ := Hid.mk hJ
  have HJX := Hid.mk hJx
  have HY := Hid.mk hY
  have HO := Hid.mk hone
  have HN := Hid.mk hN
  have hA1 := (Array.getElem?_eq_some_iff.1 hS0.box).1
  have hA2l := (Array.getElem?_eq_some_iff.1 hnm).1
  have hb2 : Below W.heap.size W ((W.alloc (.cells #[.func (.yield l) #[] #[]] 56)).alloc (.cells #[.int .i64 x0, .string x1, .string x2, .slice io N ic, .slice ko N kc] 25)) := below2 W _ _
  have HOt : Hid (OtS ((W.alloc (.cells #[.func (.yield l) #[] #[]] 56)).alloc (.cells #[.int .i64 x0, .string x1, .string x2, .slice io N ic, .slice ko N kc] 25)) B W.heap.size A2 l key) := by
    have nr : ∀ b, ¬ rwAt ((W.alloc (.cells #[.func (.yield l) #[] #[]] 56)).alloc (.cells #[.int .i64 x0, .string x1, .string x2, .slice io N ic, .slice ko N kc] 25)) B b := fun b hr => hrw b ((rwAt_same (hb2.block B hBl)).1 hr)
    exact ⟨(hb2.block _ hA2l).trans hnm, (Below.heap_alloc _ _ _ (by simp)).trans (heap_alloc_new W _), ⟨hA2, nr _⟩, by omega, nr _⟩
  have HIn : Hid (InS ((W.alloc (.cells #[.func (.yield l) #[] #[]] 56)).alloc (.cells #[.int .i64 x0, .string x1, .string x2, .slice io N ic, .slice ko N kc] 25)) n₀ B (W.heap.size + 1) N (.int .i64 x0) (.string x1) (.string x2) io ic ko kc ky c) := by
    have h1 := hS0.keep (KpG.of_below hn0 hBl hb2)
    refine ⟨?_, ⟨by omega, fun hr => hrw _ ((rwAt_same (hb2.block B hBl)).1 hr)⟩, h1.keys, h1.items⟩
    have := heap_alloc_new (W.alloc (.cells #[.func (.yield l) #[] #[]] 56)) (.cells #[.int .i64 x0, .string x1, .string x2, .slice io N ic, .slice ko N kc] 25)
    rwa [World.size_alloc] at this
  have HJ0 : Hid (J [] ((W.alloc (.cells #[.func (.yield l) #[] #[]] 56)).alloc (.cells #[.int .i64 x0, .string x1, .string x2, .slice io N ic, .slice ko N kc] 25))) := hJ.alloc _ (hJ.alloc _ h0)
  have hbox := hS0.box
  have r : ∀ (o : Obj) j v, W.cell? ⟨A1, j, none⟩ = some v → (W.alloc o).cell? ⟨A1, j, none⟩ = some v := fun o j v h => ((below1 W o).cell (p := ⟨_, _, _⟩) hA1).trans h
  have c0 : ∀ o, (W.alloc o).cell? ⟨A1, 0, none⟩ = some (.int .i64 x0) := fun o => r o 0 _ (cell_of_row _ _ 0 _ _ _ hbox)
  have c1 : ∀ o, (W.alloc o).cell? ⟨A1, 1, none⟩ = some (.string x1) := fun o => r o 1 _ (cell_of_row _ _ 1 _ _ _ hbox)
  have c2 : ∀ o, (W.alloc o).cell? ⟨A1, 2, none⟩ = some (.string x2) := fun o => r o 2 _ (cell_of_row _ _ 2 _ _ _ hbox)
  have c3 : ∀ o, (W.alloc o).cell? ⟨A1, 3, none⟩ = some (.slice io N ic) := fun o => r o 3 _ (cell_of_row _ _ 3 _ _ _ hbox)
  have c4 : ∀ o, (W.alloc o).cell? ⟨A1, 4, none⟩ = some (.slice ko N kc) := fun o => r o 4 _ (cell_of_row _ _ 4 _ _ _ hbox)
  clear hJ hJx hY h0 hone hS0 hN hnm hbox r hrw
  refine callsIn_of_wp_marks Try.func32 rfl trivial ?_ rfl
  simp only [Try.ntmps32, List.size_toArray, List.length_cons, List.length_nil, Nat.reduceAdd, Nat.reduceSub, Array.replicate_succ, Array.replicate_zero, List.push_toArray, List.append_toArray, List.nil_append, List.cons_append]
  gi_wp2_with fail
  refine ⟨trivial, (callsIn_wide.2 (w_inside _ _ _ _ _ ⟨x0, x1, x2, io, N, ic, ko, N, kc, rfl, rfl, rfl, rfl, rfl⟩ _)).mono ?_⟩
  rintro e w2 ⟨rfl, rfl⟩
  gi_wp2_with fail
  obtain ⟨V2, hV2⟩ : ∃ V2, (W.alloc (.cells #[.func (.yield l) #[] #[]] 56)).alloc (.cells #[.int .i64 x0, .string x1, .string x2, .slice io N ic, .slice ko N kc] 25) = V2 := ⟨_, rfl⟩
  have hVs : V2.heap.size = W.heap.size + 2 := by rw [← hV2]; simp
  rw [hV2] at HOt HIn HJ0 hb2
  rw [hV2]
  have HVs := Hid.mk hVs
  clear hV2 c0 c1 c2 c3 c4
  refine wpIn_range_ownO (by omega) (gf := 42) (lb := #[.pointer (some ⟨W.heap.size + 1, 0, none⟩)]) rfl (enters_of Try.func42 (by kernel_rfl) rfl)
    (encs := fun x : { i : Nat // i < N } => encK ky c x.1) (Kp := KpG n₀ B) (S := fun xs => xs.map (·.1) = List.range N) (Sp := fun m => m.map (·.1) = List.range m.length) (N := N) (w0 := V2)
    (fun l' J' Jx' W' hb' hs' hJ' hJx' hY' h0' => inside1_inO 5 (by omega) l' n₀ B (W.heap.size + 1) N _ _ _ io ic ko kc ky c HN.out hN2 HO.out J' Jx' W' (by omega) (by omega) (HIn.out.keep (KpG.of_below (by omega) (by omega) hb')) hJ' hJx' (fun pre x W1 g1 g2 g3 => hY' pre x W1 g1 g2 g3) h0')
    (fun h k => h.trans k) (fun Z r r' h => KpG.put (w := V2) (by omega) (by omega) Z _ _ _ (Nat.le_succ _) h rfl rfl) (Below.refl _ _) (fun _ => rfl)
    (fun pre W1 => OtS W1 B W.heap.size A2 l key ∧ V2.heap.size ≤ W1.heap.size ∧ ∃ pre' : List { i : Nat // i < (Fp ky key N).length }, pre'.map (·.1) = List.range (Fp ky key pre.length).length ∧ J pre' W1)
    (fun cc pre W1 => cc = .ret ∧ ∃ pre', Jx pre' W1) ?hI ?hIx ?h0
    (fun x a' W1 => ∃ Bx, IBox W1 Bx (c x.1) ∧ a' = { tmps := #[.func (.yield l) #[] #[], .pointer (some ⟨A1, 0, none⟩), .pointer (some ⟨A2, 0, none⟩), .pointer (some ⟨W.heap.size, 0, none⟩), .string (ky x.1), .pointer (some ⟨Bx, 0, none⟩), .agg #[.int .i64 x0, .string x1, .string x2, .slice io N ic, .slice ko N kc], .func (.func 42) #[] #[.pointer (some ⟨W.heap.size + 1, 0, none⟩)], .string (ky x.1), .agg #[c x.1 0, c x.1 1, c x.1 2, c x.1 3, c x.1 4], undef, undef, undef, undef, undef, undef, undef, undef, undef, undef], defers := [] }) ?hAx ?assign ?body ?done ?stop
  case hI =>
    rintro pre X Y row ⟨h1, h2, pre', h3, h4⟩ hg hr
    have far : ∀ b, b < V2.heap.size → some b ≠ row := fun b hb e => by have := (hr b e.symm).1; omega
    have nr : ∀ b, ¬ rwAt X B b → ¬ rwAt Y B b := fun b hn h => hn ((rwAt_same (hg.block B (by omega) (far B (by omega)))).1 h)
    refine ⟨⟨(hg.block _ (by omega) (far _ (by omega))).trans h1.nm, (hg.block _ (by omega) (far _ (by omega))).trans h1.yb, ⟨h1.far.1.1, nr _ h1.far.1.2⟩, h1.far.2.1, nr _ h1.far.2.2⟩, Nat.le_trans h2 hg.size, pre', h3, HJ.out pre' X Y row h4 hg (fun r e => ⟨by have := (hr r e).1; omega, (hr r e).2⟩)⟩
  case hIx =>
    rintro cc pre X Y row ⟨h1, pre', h2⟩ hg hr
    exact ⟨h1, pre', HJX.out pre' X Y row h2 hg (fun r e => ⟨by have := (hr r e).1; omega, (hr r e).2⟩)⟩
  case h0 => exact ⟨HOt.out, Nat.le_refl _, [], rfl, HJ0.out⟩
  case hAx =>
    rintro x a' _ X Y row ⟨Bx, h2, h3⟩ hg hr
    exact ⟨Bx, ibox_own _ Bx (c x.1) () X Y row h2 hg hr, h3⟩
  case assign =>
    rintro l' pre x W1 KK ⟨g1, g2, pre', g3, g4⟩ hKK
    obtain ⟨ik, inm, itx, iio, iN, iicap, iko, iK, ikcap, o0, o1, o2, o3, o4⟩ := HO.out x.1 x.2
    have hIb : IBox (W1.alloc (.cells #[c x.1 0, c x.1 1, c x.1 2, c x.1 3, c x.1 4] 25)) W1.heap.size (c x.1) := ⟨World.alloc_heap_new W1 _⟩
    have hkp : KpG n₀ B W1 (W1.alloc (.cells #[c x.1 0, c x.1 1, c x.1 2, c x.1 3, c x.1 4] 25)) := KpG.of_below (by omega) (by omega) (below1 _ _)
    have FIN := hKK { tmps := #[.func (.yield l) #[] #[], .pointer (some ⟨A1, 0, none⟩), .pointer (some ⟨A2, 0, none⟩), .pointer (some ⟨W.heap.size, 0, none⟩), .string (ky x.1), .pointer (some ⟨W1.heap.size, 0, none⟩), .agg #[.int .i64 x0, .string x1, .string x2, .slice io N ic, .slice ko N kc], .func (.func 42) #[] #[.pointer (some ⟨W.heap.size + 1, 0, none⟩)], .string (ky x.1), .agg #[c x.1 0, c x.1 1, c x.1 2, c x.1 3, c x.1 4], undef, undef, undef, undef, undef, undef, undef, undef, undef, undef], defers := [] } _ (keepsFrom_below (below1 W1 (.cells #[c x.1 0, c x.1 1, c x.1 2, c x.1 3, c x.1 4] 25))) hkp ⟨g1.keep hkp, by rw [World.size_alloc]; omega, pre', g3, HJ.out pre' _ _ none g4 (World.grownBy_alloc W1 _ none) (fun r e => by cases e)⟩ ⟨_, hIb, rfl⟩
    unfold encK
    dsimp only
    rw [o0, o1, o2, o3, o4] at FIN ⊢
    clear hKK hIb hkp g1 g3 g4
    gi_wp2_with fail
    exact FIN
  case body =>
    rintro l' pre x a' W1 hl ⟨r, hr⟩ ⟨hot, hsz, pre', hpre, hJp⟩ ⟨Bx, bX, rfl⟩ hlt hSp
    obtain ⟨ik, inm, itx, iio, iN, iicap, iko, iK, ikcap, o0, o1, o2, o3, o4⟩ := HO.out x.1 x.2
    have hx : x.1 = pre.length := by
      have h1 : pre.map (·.1) ++ [x.1] = List.range (pre.length + 1) := by
        have h2 := hSp
        rw [List.map_append, List.length_append] at h2
        exact h2
      rw [List.range_succ] at h1
      have h2 := List.append_inj_right' h1 rfl
      exact (List.cons.inj h2).1
    obtain ⟨c0, c1, c2, c3, c4⟩ := bX.cell
    rw [o0] at c0; rw [o1] at c1; rw [o2] at c2; rw [o3] at c3; rw [o4] at c4
    have d0 : W1.cell? ⟨A2, 0, none⟩ = some (.string key) := cell_of_row _ _ 0 _ _ _ hot.nm
    have d1 : W1.cell? ⟨W.heap.size, 0, none⟩ = some (.func (.yield l) #[] #[]) := cell_of_row _ _ 0 _ _ _ hot.yb
    have hlen : (pre ++ [x]).length = pre.length + 1 := by rw [List.length_append]; rfl
    cases hp : ((ky x.1).toList == key.toList) with
    | true =>
      have FIN : Hid (ownPostG V2.heap.size (KpG n₀ B) (fun pre W1 => OtS W1 B W.heap.size A2 l key ∧ V2.heap.size ≤ W1.heap.size ∧ ∃ pre' : List { i : Nat // i < (Fp ky key N).length }, pre'.map (·.1) = List.range (Fp ky key pre.length).length ∧ J pre' W1) (fun cc pre W1 => cc = .ret ∧ ∃ pre', Jx pre' W1) (pre ++ [x]) W1 .normal { tmps := #[], defers := [] } W1 ∧ KpG n₀ B W1 W1) := by
        have hk : KpG n₀ B W1 W1 := KpG.of_below (by omega) (by omega) (Below.refl _ _)
        refine ⟨⟨keepsFrom_below (Below.refl _ _), hk, hot, hsz, pre', ?_, hJp⟩, hk⟩
        rw [hlen, Fp_no (by rw [← hx, hp]; rfl)]
        exact hpre
      clear hpre hJp hot bX hSp hx hlen
      gi_wp2_with fail
      refine ⟨fun _ h => (by cases h), ?_⟩
      gi_wp2_with fail
      exact FIN.out
    | false =>
      obtain ⟨f1, f2, f3⟩ := Fp_at (ky := ky) (k := key) (i := pre.length) (N := N) hlt (by rw [← hx, hp]; rfl)
      have hpl : pre'.length = (Fp ky key pre.length).length := by have := congrArg List.length hpre; simpa using this
      obtain ⟨x', hx'⟩ : ∃ x' : { i : Nat // i < (Fp ky key N).length }, x'.1 = (Fp ky key pre.length).length := ⟨⟨_, f1⟩, rfl⟩
      have hyy := HY.out pre' x' W1 hJp (by omega) trivial
      unfold encK at hyy
      dsimp only at hyy
      rw [hx', f2, ← hx, o0, o1, o2, o3, o4] at hyy
      obtain ⟨fn, tmps, assign, body, hy, hR⟩ := yieldO_any (m' := 3) hyy
      have HRd := Hid.mk hR
      have HPr : Hid ((pre' ++ [x']).map (·.1) = List.range (Fp ky key (pre ++ [x]).length).length) := by
        show _ = _
        rw [List.map_append, hpre, hlen, f3, List.range_succ]
        show _ ++ [x'.1] = _
        rw [hx']
      have HOT := Hid.mk hot
      clear hyy hR hpre hJp hot bX hSp f2 f3 o0 o1 o2 o3 o4 hlen hx hx' hpl
      gi_wp2_with fail
      refine HRd.out.mono ?_
      rintro e W4 (⟨rfl, hJ4, hk4⟩ | ⟨rfl, hJx4, hk4⟩)
      · have FIN : Hid (ownPostG V2.heap.size (KpG n₀ B) (fun pre W1 => OtS W1 B W.heap.size A2 l key ∧ V2.heap.size ≤ W1.heap.size ∧ ∃ pre' : List { i : Nat // i < (Fp ky key N).length }, pre'.map (·.1) = List.range (Fp ky key pre.length).length ∧ J pre' W1) (fun cc pre W1 => cc = .ret ∧ ∃ pre', Jx pre' W1) (pre ++ [x]) W1 .normal { tmps := #[], defers := [] } W4 ∧ KpG n₀ B W1 W4) :=
          ⟨⟨keepsFrom_up (by omega) hk4.2, hk4.1, HOT.out.keep hk4.1, Nat.le_trans hsz hk4.2.size, _, HPr.out, hJ4⟩, hk4.1⟩
        clear hJ4 hk4 hy
        gi_wp2_with fail
        exact FIN.out
      · have FIN : Hid (ownPostG V2.heap.size (KpG n₀ B) (fun pre W1 => OtS W1 B W.heap.size A2 l key ∧ V2.heap.size ≤ W1.heap.size ∧ ∃ pre' : List { i : Nat // i < (Fp ky key N).length }, pre'.map (·.1) = List.range (Fp ky key pre.length).length ∧ J pre' W1) (fun cc pre W1 => cc = .ret ∧ ∃ pre', Jx pre' W1) (pre ++ [x]) W1 .ret { tmps := #[], defers := [] } W4 ∧ KpG n₀ B W1 W4) :=
          ⟨⟨keepsFrom_up (by omega) hk4.2, rfl, _, hJx4⟩, hk4.1⟩
        clear hJx4 hk4 hy
        gi_wp2_with fail
        exact FIN.out
  case done =>
    rintro D xs W1 hD hS ⟨hot, hsz, pre', hpre, hJp⟩ hK
    have hxl : xs.length = N := by have := congrArg List.length hS; simpa using this
    rw [hxl] at hpre
    have HF : Hid (∃ xs : List { i : Nat // i < (Fp ky key N).length }, xs.map (·.1) = List.range (Fp ky key N).length ∧ J xs (W1.putObj D (.deferred none))) := ⟨pre', hpre, HJ.out.putObj _ hJp (by omega) hK rfl⟩
    clear hot hpre hJp hS
    gi_wp2_with fail
    refine ⟨by simp, .inl ⟨_, _, rfl, run_takeDeferred hK, ?_⟩⟩
    refine ⟨.tuple #[], results_none rfl _ _ _, ?_⟩
    exact ⟨⟨_, rfl⟩, .inl HF.out⟩
  case stop =>
    rintro D cc pre W1 hD hSp ⟨rfl, pre', hj⟩ hK
    have HF : Hid (∃ pre' : List { i : Nat // i < (Fp ky key N).length }, True ∧ Jx pre' (W1.putObj D (.deferred none))) := ⟨pre', trivial, HJX.out.putObj _ hj (by omega) hK rfl⟩
    clear hj
    gi_wp2_with fail
    refine ⟨by simp, .inl ⟨_, _, rfl, run_takeDeferred hK, ?_⟩⟩
    refine ⟨.tuple #[], results_none rfl _ _ _, ?_⟩
    exact ⟨⟨_, rfl⟩, .inr HF.out⟩
end Go.Proofs.Ytbaknnpjbokilaa
namespace Go.Proofs.Ytbaknnpjbokilaa
open Go.RowKit Go.Maps Go.Sort Go.Shelf
set_option linter.unusedVariables false
set_option linter.unusedSimpArgs false

set_option maxRecDepth 100000 in
theorem w_others (x0 : Int) (x1 x2 : ByteArray) (io : Option Addr) (N ic : Nat) (ko : Option Addr) (K kc : Nat) (key : ByteArray) (w : World) :
    Calls Try.prog 23 #[.agg #[.int .i64 x0, .string x1, .string x2, .slice io N ic, .slice ko K kc], .string key] w fun e w' => e = .returned (.func (.func 32) #[] #[.pointer (some ⟨w.heap.size, 0, none⟩), .pointer (some ⟨w.heap.size + 1, 0, none⟩)]) ∧ w' = (w.alloc (.cells #[.int .i64 x0, .string x1, .string x2, .slice io N ic, .slice ko K kc] 25)).alloc (.cells #[.string key] 9) := by
  go_enter Try.func23, Try.ntmps23
  go_wp2_with fail
  go_ret
  exact ⟨rfl, rfl⟩
/-- others, then gathered -/
theorem gathered_others (h : Nat) (T : VT) (o : Obj6 T) (x0 : Int) (x1 x2 : ByteArray) (io : Option Addr) (ic : Nat) (ko : Option Addr) (kc : Nat) (key : ByteArray) (u w : World) (hk : KIn u ko T.keys) (hi : IIn u h io T.items) (hc : T.keys.length ≤ ic ∧ T.keys.length ≤ kc) (hN : T.keys.length ≤ 100000) (hs : ∀ k ∈ T.keys, k.size ≤ 140737488355328)
    (hw : w = (u.alloc (.cells #[.int .i64 x0, .string x1, .string x2, .slice io T.keys.length ic, .slice ko T.keys.length kc] 25)).alloc (.cells #[.string key] 9)) :
    Calls Try.prog 22 #[.func (.func 32) #[] #[.pointer (some ⟨u.heap.size, 0, none⟩), .pointer (some ⟨u.heap.size + 1, 0, none⟩)]] w fun e w' => ∃ (M : Nat) (io : Option Addr) (ic : Nat) (ko : Option Addr) (kc : Nat), e = .returned (.agg #[.int .i64 6, .string ⟨#[]⟩, .string ⟨#[]⟩, .slice io M ic, .slice ko M kc]) ∧
      Hid (InH w' (h + 1) (woT T key) (.agg #[.int .i64 6, .string ⟨#[]⟩, .string ⟨#[]⟩, .slice io M ic, .slice ko M kc])) ∧ Hid (Below w.heap.size w w') := by
  obtain ⟨c, c1, c2, c3⟩ := items_fun hi
  have hu2 : Below u.heap.size u w := by rw [hw]; exact below2 u _ _
  have hws : w.heap.size = u.heap.size + 2 := by rw [hw]; simp
  have hA1 : w.heap[u.heap.size]? = some (.cells #[.int .i64 x0, .string x1, .string x2, .slice io T.keys.length ic, .slice ko T.keys.length kc] 25 (0, 0)) := by
    rw [hw]; exact (Below.heap_alloc _ _ _ (by simp)).trans (heap_alloc_new u _)
  have hA2 : w.heap[u.heap.size + 1]? = some (.cells #[.string key] 9 (0, 0)) := by
    rw [hw]
    have := heap_alloc_new (u.alloc (.cells #[.int .i64 x0, .string x1, .string x2, .slice io T.keys.length ic, .slice ko T.keys.length kc] 25)) (.cells #[.string key] 9)
    rwa [World.size_alloc] at this
  clear hw
  have hMl := Fp_len (fun i => T.keys.getD i .empty) key T.keys.length
  have hlt := fun j hj => Fp_lt (ky := fun i => T.keys.getD i .empty) (k := key) (N := T.keys.length) (j := j) hj
  have hon : ∀ i, i < T.keys.length → OneC (c i) := fun i hi' => c3 i (by rw [← o.len]; exact hi')
  have eT := woT_of o key
  refine (w_gatheredO 32 #[.pointer (some ⟨u.heap.size, 0, none⟩), .pointer (some ⟨u.heap.size + 1, 0, none⟩)] (Fp (fun i => T.keys.getD i .empty) key T.keys.length).length (fun j => T.keys.getD ((Fp (fun i => T.keys.getD i .empty) key T.keys.length).getD j 0) .empty) (fun j => c ((Fp (fun i => T.keys.getD i .empty) key T.keys.length).getD j 0)) w (fun j hj => hon _ (hlt j hj)) (by omega) (enters_of Try.func32 (by kernel_rfl) rfl) ?_).mono ?_
  · intro W hW hrw hlW l J Jx W' hW' hs2 hJ hJx hY h0
    have hWW : Below w.heap.size w W' := hW.trans (hW'.mono hW.size)
    have hsz := hW'.size
    have nr : ∀ b, ¬ rwAt W' (w.heap.size + 1) b := fun b hb => hrw b ((rwAt_same (hW'.block (w.heap.size + 1) hlW)).1 hb)
    refine others1_in l w.heap.size (w.heap.size + 1) (w.heap.size + 4) u.heap.size (u.heap.size + 1) T.keys.length x0 x1 x2 io ic ko kc (fun i => T.keys.getD i .empty) c key hc hN hon J Jx W' hWW.size (by omega) (by omega) nr ⟨(hWW.block _ (by omega)).trans hA1, ⟨by omega, nr _⟩, fun i hi' => ?_, fun i hi' => ?_⟩ ((hWW.block _ (by omega)).trans hA2) (by omega) hJ hJx (fun pre x W1 g1 g2 g3 => hY pre x W1 g1 g2 g3) h0
    · obtain ⟨b, off, e, hb0, hr⟩ := hk.row (by omega)
      have hb1 : b < w.heap.size := by omega
      exact ⟨b, off, e, hb1, (hWW.cell (p := ⟨b, off + i, none⟩) hb1).trans ((hu2.cell (p := ⟨b, off + i, none⟩) hb0).trans (hr i hi'))⟩
    · obtain ⟨b, off, e, hb0, a0, a1, a2, a3, a4⟩ := c1 i (by rw [← o.len]; exact hi')
      have hb1 : b < w.heap.size := by omega
      exact ⟨b, off, e, hb1, (hWW.cell (p := ⟨_, _, _⟩) hb1).trans ((hu2.cell (p := ⟨_, _, _⟩) hb0).trans a0), (hWW.cell (p := ⟨_, _, _⟩) hb1).trans ((hu2.cell (p := ⟨_, _, _⟩) hb0).trans a1), (hWW.cell (p := ⟨_, _, _⟩) hb1).trans ((hu2.cell (p := ⟨_, _, _⟩) hb0).trans a2), (hWW.cell (p := ⟨_, _, _⟩) hb1).trans ((hu2.cell (p := ⟨_, _, _⟩) hb0).trans a3), (hWW.cell (p := ⟨_, _, _⟩) hb1).trans ((hu2.cell (p := ⟨_, _, _⟩) hb0).trans a4)⟩
  · rintro e w' ⟨io', ic', ko', kc', rfl, hR⟩
    refine ⟨_, io', ic', ko', kc', rfl, ?_, hR.out.below⟩
    rw [← eT]
    refine rows_in hR.out (fun j => T.items.getD ((Fp (fun i => T.keys.getD i .empty) key T.keys.length).getD j 0) (.mk 0 .empty .empty [] [])) (fun j hj => ?_) (by omega) (fun j hj => ?_)
    · have hl := hlt j hj
      generalize (Fp (fun i => T.keys.getD i .empty) key T.keys.length).getD j 0 = q at hl ⊢
      have h1 : q < T.items.length := by rw [← o.len]; exact hl
      have e1 : T.items.getD q (.mk 0 .empty .empty [] []) = T.items[q] := by simp [List.getD, h1]
      rw [e1]
      exact ((c2 q h1).keep hu2).keep hR.out.below
    · have hl := hlt j hj
      show (T.keys.getD _ .empty).size ≤ _
      rw [getD_key hl]
      exact hs _ (List.getElem_mem hl)
end Go.Proofs.Ytbaknnpjbokilaa
