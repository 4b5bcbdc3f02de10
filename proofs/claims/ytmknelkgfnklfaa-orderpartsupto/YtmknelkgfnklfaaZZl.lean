import Derived.Test.YtmknelkgfnklfaaM31
namespace Go.Proofs.Ytmknelkgfnklfaa
open Go.RowKit Go.Shelf Go.Sort
set_option linter.unusedVariables false
set_option linter.unusedSimpArgs false

/-- a number, a text of one letter -/
def nW (d : UInt8) : VT := .mk 3 ⟨#[d]⟩ ⟨#[]⟩ [] []
def tW (d : UInt8) : VT := .mk 4 ⟨#[]⟩ ⟨#[d]⟩ [] []
def leafC (T : VT) : List Value := [.int .i64 T.kind, .string T.num, .string T.text, .slice none 0 0, .slice none 0 0]
def leafT (T : VT) : Prop := T.items = [] ∧ T.keys = [] ∧ T.num.size ≤ 10 ∧ T.text.size ≤ 10
theorem nW_leaf (d : UInt8) : leafT (nW d) := ⟨rfl, rfl, by show 1 ≤ 10; omega, by show 0 ≤ 10; omega⟩
theorem tW_leaf (d : UInt8) : leafT (tW d) := ⟨rfl, rfl, by show 0 ≤ 10; omega, by show 1 ≤ 10; omega⟩
theorem leaf_in {W : World} {T : VT} (hT : leafT T) : InH W 1 T (.agg #[.int .i64 T.kind, .string T.num, .string T.text, .slice none 0 0, .slice none 0 0]) := by
  obtain ⟨t1, t2, t3, t4⟩ := hT
  exact ⟨none, 0, none, 0, by rw [t1, t2]; rfl, by omega, by omega, by rw [t1]; simp, by rw [t2]; simp, by rw [t1]; simp, by rw [t2]; simp, by rw [t2]; simp, ⟨fun h => by rw [t2] at h; cases h⟩, fun h => by rw [t1] at h; cases h⟩
theorem leaf_get : ∀ (ts : List VT) (i : Nat) (hi : i < ts.length) (j : Nat), j < 5 → (ts.flatMap leafC)[i * 5 + j]? = (leafC ts[i])[j]?
  | [], i, hi, _, _ => absurd hi (Nat.not_lt_zero _)
  | T :: ts, 0, _, j, hj => by
    rw [List.flatMap_cons, List.getElem?_append_left (by show 0 * 5 + j < 5; omega), Nat.zero_mul, Nat.zero_add]; rfl
  | T :: ts, i + 1, hi, j, hj => by
    rw [List.flatMap_cons, List.getElem?_append_right (by show 5 ≤ (i + 1) * 5 + j; omega)]
    have e : (i + 1) * 5 + j - (leafC T).length = i * 5 + j := by show (i + 1) * 5 + j - 5 = _; omega
    rw [e]
    exact leaf_get ts i (by simpa using hi) j hj
/-- a row of values without parts, as it was built -/
theorem leaf_row {W : World} {b : Nat} {ts : List VT} {cs : Array Value} {t : TypeId} (hT : ∀ T ∈ ts, leafT T) (hb : W.heap[b]? = some (.cells cs t (0, 0))) (hc : cs.toList = ts.flatMap leafC) : IIn W 1 (some ⟨b, 0, none⟩) ts := by
  refine ⟨fun h0 => ⟨b, 0, rfl, (Array.getElem?_eq_some_iff.1 hb).1, fun i hi => ?_⟩⟩
  have cc : ∀ j, j < 5 → W.cell? ⟨b, 0 + i * 5 + j, none⟩ = (leafC ts[i])[j]? := fun j hj => by
    rw [Nat.zero_add, cell_of_row _ _ _ _ _ _ hb, ← Array.getElem?_toList, hc, leaf_get ts i hi j hj]
  exact ⟨_, _, _, _, _, ⟨cc 0 (by omega), cc 1 (by omega), cc 2 (by omega), cc 3 (by omega), cc 4 (by omega)⟩, leaf_in (hT _ (List.getElem_mem hi))⟩

theorem emZ : (⟨#[]⟩ : ByteArray).toList.isEmpty = true := by rw [Lib.toList_data]; rfl
theorem emZ2 : ByteArray.empty.toList.isEmpty = true := by rw [Lib.toList_data]; rfl
theorem nW_form (d : UInt8) (h : Pl.formed [d] = true) : formN 1 (nW d) = true := by
  show (Pl.formed [d] && bareB .empty ⟨#[]⟩ 0 0) = true
  unfold bareB; rw [emZ, emZ2, h]; decide
theorem tW_form (d : UInt8) (h : okB [d] = true) : formN 1 (tW d) = true := by
  show (okB [d] && bareB ⟨#[]⟩ .empty 0 0) = true
  unfold bareB; rw [emZ, emZ2, h]; decide

def kL : List VT := [tW 120, tW 121, tW 122]
def kK : List VT := [nW 50, nW 49, nW 50]
def kA : List VT := [nW 49, nW 51]
def kB : List VT := [nW 50, nW 51]
def kD : List VT := [nW 49, nW 50, nW 51, nW 51]
def kP : List VT := [nW 50, nW 49, nW 49]
def kQ : List VT := [nW 50, nW 51, nW 51]
def kN : List VT := [nW 50, nW 49]
def kX : List VT := [.mk 9 ⟨#[]⟩ ⟨#[]⟩ [] []]
theorem kL_leaf : ∀ T ∈ kL, leafT T := by intro T h; simp only [kL, List.mem_cons, List.not_mem_nil, or_false] at h; rcases h with rfl | rfl | rfl <;> exact tW_leaf _
theorem kK_leaf : ∀ T ∈ kK, leafT T := by intro T h; simp only [kK, List.mem_cons, List.not_mem_nil, or_false] at h; rcases h with rfl | rfl | rfl <;> exact nW_leaf _
theorem kA_leaf : ∀ T ∈ kA, leafT T := by intro T h; simp only [kA, List.mem_cons, List.not_mem_nil, or_false] at h; rcases h with rfl | rfl <;> exact nW_leaf _
theorem kB_leaf : ∀ T ∈ kB, leafT T := by intro T h; simp only [kB, List.mem_cons, List.not_mem_nil, or_false] at h; rcases h with rfl | rfl <;> exact nW_leaf _
theorem kD_leaf : ∀ T ∈ kD, leafT T := by intro T h; simp only [kD, List.mem_cons, List.not_mem_nil, or_false] at h; rcases h with rfl | rfl | rfl | rfl <;> exact nW_leaf _
theorem kP_leaf : ∀ T ∈ kP, leafT T := by intro T h; simp only [kP, List.mem_cons, List.not_mem_nil, or_false] at h; rcases h with rfl | rfl | rfl <;> exact nW_leaf _
theorem kQ_leaf : ∀ T ∈ kQ, leafT T := by intro T h; simp only [kQ, List.mem_cons, List.not_mem_nil, or_false] at h; rcases h with rfl | rfl | rfl <;> exact nW_leaf _
theorem kN_leaf : ∀ T ∈ kN, leafT T := by intro T h; simp only [kN, List.mem_cons, List.not_mem_nil, or_false] at h; rcases h with rfl | rfl <;> exact nW_leaf _
theorem kX_leaf : ∀ T ∈ kX, leafT T := by intro T h; simp [kX] at h; subst h; exact ⟨rfl, rfl, by show 0 ≤ 10; omega, by show 0 ≤ 10; omega⟩
theorem kL_form : kL.all (formN 1) = true := by simp only [kL, List.all_cons, List.all_nil, tW_form 120 (by decide), tW_form 121 (by decide), tW_form 122 (by decide), Bool.and_self]
theorem kK_form : kK.all (formN 1) = true := by simp only [kK, List.all_cons, List.all_nil, nW_form 50 (by decide), nW_form 49 (by decide), Bool.and_self]
theorem kA_form : kA.all (formN 1) = true := by simp only [kA, List.all_cons, List.all_nil, nW_form 51 (by decide), nW_form 49 (by decide), Bool.and_self]
theorem kB_form : kB.all (formN 1) = true := by simp only [kB, List.all_cons, List.all_nil, nW_form 51 (by decide), nW_form 50 (by decide), Bool.and_self]
theorem kD_form : kD.all (formN 1) = true := by simp only [kD, List.all_cons, List.all_nil, nW_form 51 (by decide), nW_form 50 (by decide), nW_form 49 (by decide), Bool.and_self]
theorem kP_form : kP.all (formN 1) = true := by simp only [kP, List.all_cons, List.all_nil, nW_form 50 (by decide), nW_form 49 (by decide), Bool.and_self]
theorem kQ_form : kQ.all (formN 1) = true := by simp only [kQ, List.all_cons, List.all_nil, nW_form 50 (by decide), nW_form 51 (by decide), Bool.and_self]
theorem kN_form : kN.all (formN 1) = true := by simp only [kN, List.all_cons, List.all_nil, nW_form 50 (by decide), nW_form 49 (by decide), Bool.and_self]
theorem kX_form : kX.all (formN 1) = false := by rfl

theorem k_grp : grp 1 kK = [[1], [0, 2]] := by decide
theorem k_E : gpE 1 kL kK = 0 := by unfold gpE; rw [kL_form, kK_form]; rfl
theorem k_L : gpL 1 kL kK = [[1], [0, 2]] := by unfold gpL; rw [k_E, if_pos rfl]; exact k_grp
theorem k_sort : sbL 1 kL kK = [tW 121, tW 120, tW 122] := by unfold sbL; rw [k_L]; rfl
theorem k_uniq : unL 1 kL kK = [tW 121, tW 120] := by unfold unL; rw [k_L]; rfl
theorem k_group : grL 1 kL kK = [[tW 121], [tW 120, tW 122]] := by unfold grL; rw [k_L]; rfl
theorem k_mE : mrE 1 kA kB = 0 := by unfold mrE; rw [kA_form, kB_form, Bool.and_self, if_pos rfl, if_pos (by decide)]
theorem k_mI : mrI 1 kA kB = [0, 2, 1, 3] := by decide
theorem k_merge : mrL 1 kA kB = kD := by unfold mrL; rw [k_mE, if_pos rfl, k_mI]; rfl
theorem k_least : lstA 1 kP = 1 := by unfold lstA; rw [kP_form, if_pos rfl]; decide
theorem k_leastE : shE 1 kP = 0 := by unfold shE; rw [kP_form, if_pos rfl]
theorem k_great : grtA 1 kQ = 2 := by unfold grtA; rw [kQ_form, if_pos rfl]; decide
theorem k_greatE : shE 1 kQ = 0 := by unfold shE; rw [kQ_form, if_pos rfl]
theorem k_search : seA 1 kD (nW 51) = (2, true, 0) := by
  unfold seA
  rw [kD_form, nW_form 51 (by decide), Bool.and_self, if_pos rfl, if_pos (by decide)]
  have e : bel 1 kD (nW 51) = 2 := by decide
  rw [e]
  have e2 : cV 1 kD (nW 51) 2 = 0 := by decide
  rw [e2]; rfl
theorem k_E2 : gpE 1 kL (kK.take 2) = 2 := by
  have f : (kK.take 2).all (formN 1) = true := by
    show [nW 50, nW 49].all (formN 1) = true
    exact kN_form
  unfold gpE; rw [kL_form, f]; rfl
theorem k_mE2 : mrE 1 kN [] = 2 := by unfold mrE; rw [kN_form, List.all_nil, Bool.and_self, if_pos rfl, if_neg (by decide)]
theorem k_E3 : gpE 1 kX kX = 1 := by unfold gpE; rw [kX_form]; rfl

set_option maxRecDepth 100000 in
set_option maxHeartbeats 3200000 in
theorem w_whole (d : UInt8) (w : World) : Calls Try.prog 10 #[.string ⟨#[d]⟩] w fun e w' => e = .returned (.agg #[.int .i64 3, .string ⟨#[d]⟩, .string ⟨#[]⟩, .slice none 0 0, .slice none 0 0]) ∧ Below w.heap.size w w' := by
  have HB := Hid.mk (below1 w (.cells #[.int .i64 3, .string ⟨#[d]⟩, .string ⟨#[]⟩, .slice none 0 0, .slice none 0 0] 25))
  have z0 := (vbx_new w (.int .i64 3) (.string ⟨#[d]⟩) (.string ⟨#[]⟩) (.slice none 0 0) (.slice none 0 0)).c0
  have z1 := (vbx_new w (.int .i64 3) (.string ⟨#[d]⟩) (.string ⟨#[]⟩) (.slice none 0 0) (.slice none 0 0)).c1
  have z2 := (vbx_new w (.int .i64 3) (.string ⟨#[d]⟩) (.string ⟨#[]⟩) (.slice none 0 0) (.slice none 0 0)).c2
  have z3 := (vbx_new w (.int .i64 3) (.string ⟨#[d]⟩) (.string ⟨#[]⟩) (.slice none 0 0) (.slice none 0 0)).c3
  have z4 := (vbx_new w (.int .i64 3) (.string ⟨#[d]⟩) (.string ⟨#[]⟩) (.slice none 0 0) (.slice none 0 0)).c4
  go_enter Try.func10, Try.ntmps10
  go_wp2_with fail
  refine bodyPost_ret (v := .agg #[.int .i64 3, .string ⟨#[d]⟩, .string ⟨#[]⟩, .slice none 0 0, .slice none 0 0]) (by simp [results, Try.results10, go_sem, z0, z1, z2, z3, z4]) rfl ?_
  exact ⟨rfl, HB.out⟩

set_option maxRecDepth 100000 in
set_option maxHeartbeats 3200000 in
theorem w_word (d : UInt8) (w : World) : Calls Try.prog 9 #[.string ⟨#[d]⟩] w fun e w' => e = .returned (.agg #[.int .i64 4, .string ⟨#[]⟩, .string ⟨#[d]⟩, .slice none 0 0, .slice none 0 0]) ∧ Below w.heap.size w w' := by
  have HB := Hid.mk (below1 w (.cells #[.int .i64 4, .string ⟨#[]⟩, .string ⟨#[d]⟩, .slice none 0 0, .slice none 0 0] 25))
  have z0 := (vbx_new w (.int .i64 4) (.string ⟨#[]⟩) (.string ⟨#[d]⟩) (.slice none 0 0) (.slice none 0 0)).c0
  have z1 := (vbx_new w (.int .i64 4) (.string ⟨#[]⟩) (.string ⟨#[d]⟩) (.slice none 0 0) (.slice none 0 0)).c1
  have z2 := (vbx_new w (.int .i64 4) (.string ⟨#[]⟩) (.string ⟨#[d]⟩) (.slice none 0 0) (.slice none 0 0)).c2
  have z3 := (vbx_new w (.int .i64 4) (.string ⟨#[]⟩) (.string ⟨#[d]⟩) (.slice none 0 0) (.slice none 0 0)).c3
  have z4 := (vbx_new w (.int .i64 4) (.string ⟨#[]⟩) (.string ⟨#[d]⟩) (.slice none 0 0) (.slice none 0 0)).c4
  go_enter Try.func9, Try.ntmps9
  go_wp2_with fail
  refine bodyPost_ret (v := .agg #[.int .i64 4, .string ⟨#[]⟩, .string ⟨#[d]⟩, .slice none 0 0, .slice none 0 0]) (by simp [results, Try.results9, go_sem, z0, z1, z2, z3, z4]) rfl ?_
  exact ⟨rfl, HB.out⟩

end Go.Proofs.Ytmknelkgfnklfaa
