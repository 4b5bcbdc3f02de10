import Derived.Test.YtdjleoglphgdgaaGreatDoorM3
import Derived.Test.YtdjleoglphgdgaaGreatDoorM41
import Derived.Test.YtdjleoglphgdgaaGreatDoorM12
import Derived.Test.YtdjleoglphgdgaaGreatDoorM32
namespace Go.Proofs.YtdjleoglphgdgaaGreatDoor
open Go.RowKit Go.Shelf Go.Sort
set_option linter.unusedVariables false
set_option linter.unusedSimpArgs false

/-- the table of operations: sign, how loose, how loose the left and the right may be -/
def pTab : List (List UInt8 × Nat × Nat × Nat) := [([], 0, 0, 0), ([], 0, 0, 0), ([], 0, 0, 0), ([], 0, 0, 0), ([], 0, 0, 0), ([], 0, 0, 0), ([], 0, 0, 0), ([], 0, 0, 0), ([], 0, 0, 0), ([], 0, 0, 0), ([], 0, 0, 0), ([], 0, 0, 0), ([32, 124, 32], 0, 1, 0), ([44, 32], 1, 1, 2), ([32, 43, 32], 7, 7, 8), ([32, 45, 32], 7, 7, 8), ([32, 42, 32], 8, 8, 9), ([32, 47, 32], 8, 8, 9), ([32, 37, 32], 8, 8, 9), ([32, 61, 61, 32], 6, 7, 7), ([32, 33, 61, 32], 6, 7, 7), ([32, 60, 32], 6, 7, 7), ([32, 60, 61, 32], 6, 7, 7), ([32, 62, 32], 6, 7, 7), ([32, 62, 61, 32], 6, 7, 7), ([32, 97, 110, 100, 32], 5, 5, 6), ([32, 111, 114, 32], 4, 4, 5), ([32, 47, 47, 32], 3, 4, 3), ([], 0, 0, 0), ([], 0, 0, 0), ([], 0, 0, 0), ([], 0, 0, 0), ([], 0, 0, 0), ([], 0, 0, 0), ([], 0, 0, 0), ([], 0, 0, 0), ([32, 61, 32], 2, 3, 3), ([32, 124, 61, 32], 2, 3, 3), ([32, 43, 61, 32], 2, 3, 3), ([32, 45, 61, 32], 2, 3, 3), ([32, 42, 61, 32], 2, 3, 3), ([32, 47, 61, 32], 2, 3, 3), ([32, 37, 61, 32], 2, 3, 3), ([32, 47, 47, 61, 32], 2, 3, 3)]
def pRow (op : Int) : List UInt8 × Nat × Nat × Nat := if op < 0 then ([], 0, 0, 0) else pTab.getD op.toNat ([], 0, 0, 0)
def pSg (op : Int) : List UInt8 := (pRow op).1
/-- how loose a part is -/
def pLo (A : NT) : Int := if A.op = 29 ∨ A.op = 32 ∨ A.op = 34 then 0 else if A.op = 11 then 9 else if A.op = 10 then 11 - (A.kids.length : Int) else if pSg A.op ≠ [] then ((pRow A.op).2.1 : Int) else 10
def pBr (b : Bool) (x : List UInt8) : List UInt8 := if b then [40] ++ (x ++ [41]) else x
def pQt (s : ByteArray) : List UInt8 := 34 :: (qb (runes s.data.toList) ++ [34])
def pPc (s : ByteArray) : List UInt8 := qb (runes s.data.toList)
noncomputable def pKy (s : ByteArray) : List UInt8 := if okB s.data.toList = false then [] else if namedB s.data.toList = true then s.data.toList else pQt s
def pCn (V : VT) : List UInt8 := if V.kind = 0 then [110, 117, 108, 108] else if V.kind = 1 then [102, 97, 108, 115, 101] else if V.kind = 2 then [116, 114, 117, 101] else if V.kind = 3 then V.num.data.toList else pQt V.text
def pTx (k : NT) : Bool := decide (k.op = 2) && decide (k.value.kind = 4)
def pRw (f : Nat → List UInt8) (n : Nat) : List UInt8 := (List.range n).flatMap fun i => (if 0 < i then [59, 32] else []) ++ f i
/-- a part's text where it may be so loose -/
def pHd (t : List UInt8) (k : NT) (n : Int) : List UInt8 := pBr (decide (pLo k < n)) t
def pBs (t : List UInt8) (k : NT) : List UInt8 := pHd t k (if k.op = 2 ∧ k.value.kind = 3 then 11 else 10)
def pEn (t : List UInt8) (k : NT) : List UInt8 := if k.op = 0 then [] else t
noncomputable def pKe (t : List UInt8) (k : NT) : List UInt8 := if pTx k = true then pKy k.value.text else if k.op = 3 then t else pHd t k 11
def pNm (ns : List ByteArray) : List UInt8 := Lib.join (ns.map (·.data.toList)) [59, 32]
/-- the texts of a part by its kind: K: the kids; t: their texts -/
def sJoin (K : Nat → NT) (t : Nat → List UInt8) (n : Nat) : List UInt8 := [34] ++ (((List.range n).flatMap fun i => if i % 2 = 0 then pPc (K i).value.text else [92, 40] ++ (t i ++ [41])) ++ [34])
def sList (t : Nat → List UInt8) (n : Nat) : List UInt8 := [91] ++ (pRw t n ++ [93])
noncomputable def sRecord (K : Nat → NT) (t : Nat → List UInt8) (n : Nat) : List UInt8 := [123] ++ (((List.range n).flatMap fun i => (if 0 < i then [44, 32] else []) ++ (pKe (t (2 * i)) (K (2 * i)) ++ ([58, 32] ++ pHd (t (2 * i + 1)) (K (2 * i + 1)) 3))) ++ [125])
def sVar (op : Int) (x : ByteArray) : List UInt8 := (if op = 35 then [98, 114, 101, 97, 107, 32] else []) ++ ([36] ++ x.data.toList)
noncomputable def sIndex (K : Nat → NT) (t : Nat → List UInt8) : List UInt8 := pBs (t 0) (K 0) ++ (if pTx (K 1) = true ∧ namedB (K 1).value.text.data.toList = true then (if (K 0).op = 1 then [] else [46]) ++ (K 1).value.text.data.toList else [91] ++ (t 1 ++ [93]))
def sSlice (K : Nat → NT) (t : Nat → List UInt8) : List UInt8 := pBs (t 0) (K 0) ++ ([91] ++ (pEn (t 1) (K 1) ++ ([58] ++ (pEn (t 2) (K 2) ++ [93]))))
def sEach (K : Nat → NT) (t : Nat → List UInt8) : List UInt8 := pBs (t 0) (K 0) ++ [91, 93]
def sTry (K : Nat → NT) (t : Nat → List UInt8) (n : Nat) : List UInt8 := if n = 1 then pBs (t 0) (K 0) ++ [63] else [116, 114, 121, 32] ++ (pHd (t 0) (K 0) 10 ++ ([32, 99, 97, 116, 99, 104, 32] ++ pHd (t 1) (K 1) 10))
def sNeg (K : Nat → NT) (t : Nat → List UInt8) : List UInt8 := [45] ++ ((if (K 0).op = 11 then [32] else []) ++ pHd (t 0) (K 0) 9)
def sIf (t : Nat → List UInt8) : List UInt8 := [105, 102, 32] ++ (t 0 ++ ([32, 116, 104, 101, 110, 32] ++ (t 1 ++ ([32, 101, 108, 115, 101, 32] ++ (t 2 ++ [32, 101, 110, 100])))))
def sSrc (K : Nat → NT) (t : Nat → List UInt8) (x : ByteArray) : List UInt8 := pHd (t 0) (K 0) 10 ++ ([32, 97, 115, 32, 36] ++ (x.data.toList ++ [32]))
def sBind (K : Nat → NT) (t : Nat → List UInt8) (x : ByteArray) : List UInt8 := sSrc K t x ++ ([124, 32] ++ t 1)
def sLoop (op : Int) (K : Nat → NT) (t : Nat → List UInt8) (x : ByteArray) (n : Nat) : List UInt8 := (if op = 31 then [102, 111, 114, 101, 97, 99, 104, 32] else [114, 101, 100, 117, 99, 101, 32]) ++ (sSrc K t x ++ ([40] ++ (pRw (fun i => t (i + 1)) (n - 1) ++ [41])))
def sDef (t : Nat → List UInt8) (x : ByteArray) (ns : List ByteArray) : List UInt8 := ([100, 101, 102, 32] ++ x.data.toList) ++ ((if ns.length = 0 then [] else [40] ++ (pNm ns ++ [41])) ++ ([58, 32] ++ pRw t 2))
def sCall (t : Nat → List UInt8) (x : ByteArray) (n : Nat) : List UInt8 := x.data.toList ++ (if n = 0 then [] else [40] ++ (pRw t n ++ [41]))
def sLabel (t : Nat → List UInt8) (x : ByteArray) : List UInt8 := ([108, 97, 98, 101, 108, 32, 36] ++ (x.data.toList ++ [32, 124, 32])) ++ t 0
def sOp (op : Int) (K : Nat → NT) (t : Nat → List UInt8) : List UInt8 := pHd (t 0) (K 0) ((pRow op).2.2.1 : Int) ++ (pSg op ++ pHd (t 1) (K 1) ((pRow op).2.2.2 : Int))
/-- the text of a filter -/
noncomputable def shT : Nat → NT → List UInt8
  | 0, _ => []
  | h + 1, A =>
    let K := fun i => A.kids.getD i nn0
    let t := fun i => shT h (A.kids.getD i nn0)
    if A.op = 1 then [46] else if A.op = 2 then pCn A.value else if A.op = 3 then sJoin K t A.kids.length else if A.op = 4 then sList t A.kids.length
    else if A.op = 5 then sRecord K t (A.kids.length / 2) else if A.op = 6 ∨ A.op = 35 then sVar A.op A.text else if A.op = 7 then sIndex K t else if A.op = 8 then sSlice K t
    else if A.op = 9 then sEach K t else if A.op = 10 then sTry K t A.kids.length else if A.op = 11 then sNeg K t else if A.op = 28 then sIf t else if A.op = 29 then sBind K t A.text
    else if A.op = 30 ∨ A.op = 31 then sLoop A.op K t A.text A.kids.length else if A.op = 32 then sDef t A.text A.names else if A.op = 33 then sCall t A.text A.kids.length
    else if A.op = 34 then sLabel t A.text else sOp A.op K t
theorem shT_up (h : Nat) (A : NT) : shT (h + 1) A = (
    let K := fun i => A.kids.getD i nn0
    let t := fun i => shT h (A.kids.getD i nn0)
    if A.op = 1 then [46] else if A.op = 2 then pCn A.value else if A.op = 3 then sJoin K t A.kids.length else if A.op = 4 then sList t A.kids.length
    else if A.op = 5 then sRecord K t (A.kids.length / 2) else if A.op = 6 ∨ A.op = 35 then sVar A.op A.text else if A.op = 7 then sIndex K t else if A.op = 8 then sSlice K t
    else if A.op = 9 then sEach K t else if A.op = 10 then sTry K t A.kids.length else if A.op = 11 then sNeg K t else if A.op = 28 then sIf t else if A.op = 29 then sBind K t A.text
    else if A.op = 30 ∨ A.op = 31 then sLoop A.op K t A.text A.kids.length else if A.op = 32 then sDef t A.text A.names else if A.op = 33 then sCall t A.text A.kids.length
    else if A.op = 34 then sLabel t A.text else sOp A.op K t) := by rw [shT]
end Go.Proofs.YtdjleoglphgdgaaGreatDoor
namespace Go.Proofs.YtdjleoglphgdgaaGreatDoor
open Go.RowKit Go.Shelf Go.Sort
set_option linter.unusedVariables false
set_option linter.unusedSimpArgs false

/-- a part that another may stand behind -/
def Bse (A : NT) : Prop := 10 ≤ pLo A ∧ A.op ≠ 1 ∧ ¬ (A.op = 2 ∧ A.value.kind = 3)
structure Par (T : KL) (A : NT) : Prop where
  tm : 10 ≤ pLo A → ∀ ws nb, TermC ws nb T A
  un : 9 ≤ pLo A → ∀ ws nb, UnC ws nb T A
  bh : 1 ≤ pLo A → ∀ ws nb, BehC ws nb T A (pLo A).toNat
  ch : 3 ≤ pLo A → ∀ ws nb, ChC ws nb T A
  pi : ∀ ws nb, PipC ws nb T A
theorem Par.un9 {T : KL} {A : NT} (hl : pLo A < 10) (h : ∀ ws nb, UnC ws nb T A) : Par T A :=
  ⟨fun e => absurd e (by omega), fun _ => h, fun _ ws nb => un_beh (h ws nb) _, fun _ ws nb => op_ch (beh_op (un_beh (h ws nb) 9)) (by omega), fun ws nb => beh_pip (un_beh (h ws nb) 9) (by omega)⟩
theorem Par.term {T : KL} {A : NT} (h : ∀ ws nb, TermC ws nb T A) : Par T A := by
  have hu : ∀ ws nb, UnC ws nb T A := fun ws nb => post_un (term_post (h ws nb))
  exact ⟨fun _ => h, fun _ => hu, fun _ ws nb => un_beh (hu ws nb) _, fun _ ws nb => op_ch (beh_op (un_beh (hu ws nb) 9)) (by omega), fun ws nb => beh_pip (un_beh (hu ws nb) 9) (by omega)⟩
theorem Par.beh {T : KL} {A : NT} {u : Nat} (hl : pLo A = u) (h1 : 1 ≤ u) (h8 : u ≤ 8) (h : ∀ ws nb, BehC ws nb T A u) (hc : u = 3 → ∀ ws nb, ChC ws nb T A) : Par T A := by
  refine ⟨fun e => absurd e (by omega), fun e => absurd e (by omega), fun _ ws nb => ?_, fun e ws nb => ?_, fun ws nb => beh_pip (h ws nb) h1⟩
  · rw [hl]; exact h ws nb
  · by_cases h3 : u = 3
    · exact hc h3 ws nb
    · exact op_ch (beh_op (h ws nb)) (by omega)
theorem Par.pip {T : KL} {A : NT} (hl : pLo A = 0) (h : ∀ ws nb, PipC ws nb T A) : Par T A :=
  ⟨fun e => absurd e (by omega), fun e => absurd e (by omega), fun e => absurd e (by omega), fun e => absurd e (by omega), h⟩
structure Ful (x : List UInt8) (T : KL) (A : NT) : Prop where
  lx : Lx (FsP nnP) x T
  lb : Bse A → Lx (FsP nbP) x T
  hd : ∃ c u, x = c :: u ∧ c ≠ 61
  par : Par T A
theorem hd_app {x y : List UInt8} (h : ∃ c u, x = c :: u ∧ c ≠ 61) : ∃ c u, x ++ y = c :: u ∧ c ≠ 61 := by
  obtain ⟨c, u, rfl, h⟩ := h
  exact ⟨c, u ++ y, rfl, h⟩
theorem Ful.base {x : List UInt8} {T : KL} {A : NT} (h : Lx (FsP nbP) x T) (hd : ∃ c u, x = c :: u ∧ c ≠ 61) (p : Par T A) : Ful x T A := ⟨h.nn, fun _ => h, hd, p⟩
theorem Ful.loose {x : List UInt8} {T : KL} {A : NT} (hl : pLo A < 10) (h : Lx (FsP nnP) x T) (hd : ∃ c u, x = c :: u ∧ c ≠ 61) (p : Par T A) : Ful x T A := ⟨h, fun b => absurd b.1 (by omega), hd, p⟩
/-- a kid's text where it may be so loose -/
theorem dress_t {x : List UInt8} {T : KL} {k : NT} {n : Int} (f : Ful x T k) (hn : n = 10 ∨ n = 11) : ∃ T', Lx (FsP nnP) (pHd x k n) T' ∧ (k.op ≠ 1 → ¬ (k.op = 2 ∧ k.value.kind = 3 ∧ n = 10) → Lx (FsP nbP) (pHd x k n) T') ∧ (∃ c u, pHd x k n = c :: u ∧ c ≠ 61) ∧ ∀ ws nb, TermC ws nb T' k := by
  unfold pHd pBr
  by_cases h : pLo k < n
  · rw [decide_eq_true h, if_pos rfl]
    have h1 := lx_paren f.lx
    exact ⟨_, h1.any, fun _ _ => h1.any, ⟨40, _, rfl, by decide⟩, fun ws nb => paren_term (f.par.pi ws nb)⟩
  · rw [decide_eq_false h, if_neg (by decide)]
    refine ⟨T, f.lx, fun h1 h2 => f.lb ⟨by omega, h1, fun ⟨a, b⟩ => ?_⟩, f.hd, f.par.tm (by omega)⟩
    have : pLo k = 10 := by unfold pLo; rw [a]; rfl
    exact h2 ⟨a, b, by omega⟩
theorem dress_b {x : List UInt8} {T : KL} {k : NT} (f : Ful x T k) : ∃ T', Lx (FsP nnP) (pBs x k) T' ∧ (k.op ≠ 1 → Lx (FsP nbP) (pBs x k) T') ∧ (∃ c u, pBs x k = c :: u ∧ c ≠ 61) ∧ ∀ ws nb, TermC ws nb T' k := by
  unfold pBs
  obtain ⟨T', h1, h2, h3, h4⟩ := dress_t (n := if k.op = 2 ∧ k.value.kind = 3 then 11 else 10) f (by split <;> simp)
  refine ⟨T', h1, fun h => h2 h fun ⟨a, b, c⟩ => ?_, h3, h4⟩
  rw [if_pos ⟨a, b⟩] at c
  omega
theorem dress_u {x : List UInt8} {T : KL} {k : NT} (f : Ful x T k) : ∃ T', Lx (FsP nnP) (pHd x k 9) T' ∧ (∃ c u, pHd x k 9 = c :: u ∧ c ≠ 61) ∧ ∀ ws nb, UnC ws nb T' k := by
  unfold pHd pBr
  by_cases h : pLo k < 9
  · rw [decide_eq_true h, if_pos rfl]
    exact ⟨_, (lx_paren f.lx).any, ⟨40, _, rfl, by decide⟩, fun ws nb => post_un (term_post (paren_term (f.par.pi ws nb)))⟩
  · rw [decide_eq_false h, if_neg (by decide)]
    exact ⟨T, f.lx, f.hd, f.par.un (by omega)⟩
theorem dress_o {x : List UInt8} {T : KL} {k : NT} {n : Nat} (f : Ful x T k) (h1 : 1 ≤ n) (h8 : n ≤ 9) : ∃ T' v, Lx (FsP nnP) (pHd x k (n : Int)) T' ∧ (∃ c u, pHd x k (n : Int) = c :: u ∧ c ≠ 61) ∧ n ≤ v ∧ (∀ ws nb, BehC ws nb T' k v) ∧ (3 ≤ n → ∀ ws nb, ChC ws nb T' k) := by
  unfold pHd pBr
  by_cases h : pLo k < (n : Int)
  · rw [decide_eq_true h, if_pos rfl]
    have hu : ∀ ws nb, UnC ws nb _ k := fun ws nb => post_un (term_post (paren_term (f.par.pi ws nb)))
    exact ⟨_, 9, (lx_paren f.lx).any, ⟨40, _, rfl, by decide⟩, h8, fun ws nb => un_beh (hu ws nb) 9, fun _ ws nb => op_ch (beh_op (un_beh (hu ws nb) 9)) (by omega)⟩
  · rw [decide_eq_false h, if_neg (by decide)]
    exact ⟨T, (pLo k).toNat, f.lx, f.hd, by omega, f.par.bh (by omega), fun h3 => f.par.ch (by omega)⟩
/-- the table of operations -/
structure OpT (op : Int) (sg : Nat × List UInt8) (u g : Nat) : Prop where
  r : ∃ n : Nat, op = (n : Int) ∧ OpR sg n u g
  row : pRow op = (pSg op, u, if g = 0 then u else u + 1, if g = 1 then u else u + 1)
  g2 : g = 2 ↔ (u = 2 ∨ u = 6)
  g1 : g = 1 ↔ u = 3
  lx : Lx An (pSg op) [sg]
  fs : FsP nnP (pSg op) ∧ pSg op ≠ []
theorem OpT.of {op : Int} {sg : Nat × List UInt8} {u g : Nat} (n : Nat) (h0 : op = (n : Int)) (h1 : (opK sg).2 = (n, u, g) ∧ brkK sg = false ∧ sufK sg = false ∧ asK sg = false ∧ 1 ≤ u ∧ u ≤ 8) (h2 : pRow op = (pSg op, u, if g = 0 then u else u + 1, if g = 1 then u else u + 1)) (h3 : (g = 2 ↔ (u = 2 ∨ u = 6)) ∧ (g = 1 ↔ u = 3)) (h4 : Lx An (pSg op) [sg]) (h5 : ∃ c r, pSg op = c :: r ∧ nnP c = true) : OpT op sg u g := by
  obtain ⟨a1, a2, a3, a4, a5, a6⟩ := h1
  obtain ⟨c, r, e, hc⟩ := h5
  exact ⟨⟨n, h0, a1, a2, a3, a4, a5, a6⟩, h2, h3.1, h3.2, h4, by rw [e]; exact ⟨fs_cons hc, List.cons_ne_nil _ _⟩⟩
theorem lx_spm {m : List UInt8} (hm : m ∈ mkL) (h1 : m ≠ [40]) (h2 : m ≠ [41]) (h3 : m ≠ [46]) (h4 : m ≠ [46, 46]) : Lx An ([32] ++ (m ++ [32])) [(10, m)] := lx_sp.app (lx_mksp hm h1 h2 h3 h4) fun _ _ => trivial
theorem lx_spo {m : List UInt8} (hm : m ∈ ownL) : Lx An ([32] ++ (m ++ [32])) [(2, m)] := lx_sp.app (lx_ownsp hm) fun _ _ => trivial
theorem opT_R {op : Int} (h : 13 ≤ op ∧ op ≤ 27 ∨ 36 ≤ op ∧ op ≤ 43) : ∃ sg u g, OpT op sg u g := by
  have h2 : op = 13 ∨ op = 36 ∨ op = 37 ∨ op = 38 ∨ op = 39 ∨ op = 40 ∨ op = 41 ∨ op = 42 ∨ op = 43 ∨ op = 27 ∨ op = 26 ∨ op = 25 ∨ op = 19 ∨ op = 20 ∨ op = 21 ∨ op = 22 ∨ op = 23 ∨ op = 24 ∨ op = 14 ∨ op = 15 ∨ op = 16 ∨ op = 17 ∨ op = 18 := by omega
  rcases h2 with rfl | rfl | rfl | rfl | rfl | rfl | rfl | rfl | rfl | rfl | rfl | rfl | rfl | rfl | rfl | rfl | rfl | rfl | rfl | rfl | rfl | rfl | rfl
  · exact ⟨(10, [44]), 1, 0, OpT.of 13 rfl (by decide) rfl (by decide) ((lx_one (c := 44) (by decide)).app lx_sp fun _ _ => trivial) ⟨_, _, rfl, by decide⟩⟩
  · exact ⟨(10, [61]), 2, 2, OpT.of 36 rfl (by decide) rfl (by decide) (lx_spm (m := [61]) (by decide) (by decide) (by decide) (by decide) (by decide)) ⟨_, _, rfl, by decide⟩⟩
  · exact ⟨(10, [124, 61]), 2, 2, OpT.of 37 rfl (by decide) rfl (by decide) (lx_spm (m := [124, 61]) (by decide) (by decide) (by decide) (by decide) (by decide)) ⟨_, _, rfl, by decide⟩⟩
  · exact ⟨(10, [43, 61]), 2, 2, OpT.of 38 rfl (by decide) rfl (by decide) (lx_spm (m := [43, 61]) (by decide) (by decide) (by decide) (by decide) (by decide)) ⟨_, _, rfl, by decide⟩⟩
  · exact ⟨(10, [45, 61]), 2, 2, OpT.of 39 rfl (by decide) rfl (by decide) (lx_spm (m := [45, 61]) (by decide) (by decide) (by decide) (by decide) (by decide)) ⟨_, _, rfl, by decide⟩⟩
  · exact ⟨(10, [42, 61]), 2, 2, OpT.of 40 rfl (by decide) rfl (by decide) (lx_spm (m := [42, 61]) (by decide) (by decide) (by decide) (by decide) (by decide)) ⟨_, _, rfl, by decide⟩⟩
  · exact ⟨(10, [47, 61]), 2, 2, OpT.of 41 rfl (by decide) rfl (by decide) (lx_spm (m := [47, 61]) (by decide) (by decide) (by decide) (by decide) (by decide)) ⟨_, _, rfl, by decide⟩⟩
  · exact ⟨(10, [37, 61]), 2, 2, OpT.of 42 rfl (by decide) rfl (by decide) (lx_spm (m := [37, 61]) (by decide) (by decide) (by decide) (by decide) (by decide)) ⟨_, _, rfl, by decide⟩⟩
  · exact ⟨(10, [47, 47, 61]), 2, 2, OpT.of 43 rfl (by decide) rfl (by decide) (lx_spm (m := [47, 47, 61]) (by decide) (by decide) (by decide) (by decide) (by decide)) ⟨_, _, rfl, by decide⟩⟩
  · exact ⟨(10, [47, 47]), 3, 1, OpT.of 27 rfl (by decide) rfl (by decide) (lx_spm (m := [47, 47]) (by decide) (by decide) (by decide) (by decide) (by decide)) ⟨_, _, rfl, by decide⟩⟩
  · exact ⟨(2, [111, 114]), 4, 0, OpT.of 26 rfl (by decide) rfl (by decide) (lx_spo (m := [111, 114]) (by decide)) ⟨_, _, rfl, by decide⟩⟩
  · exact ⟨(2, [97, 110, 100]), 5, 0, OpT.of 25 rfl (by decide) rfl (by decide) (lx_spo (m := [97, 110, 100]) (by decide)) ⟨_, _, rfl, by decide⟩⟩
  · exact ⟨(10, [61, 61]), 6, 2, OpT.of 19 rfl (by decide) rfl (by decide) (lx_spm (m := [61, 61]) (by decide) (by decide) (by decide) (by decide) (by decide)) ⟨_, _, rfl, by decide⟩⟩
  · exact ⟨(10, [33, 61]), 6, 2, OpT.of 20 rfl (by decide) rfl (by decide) (lx_spm (m := [33, 61]) (by decide) (by decide) (by decide) (by decide) (by decide)) ⟨_, _, rfl, by decide⟩⟩
  · exact ⟨(10, [60]), 6, 2, OpT.of 21 rfl (by decide) rfl (by decide) (lx_spm (m := [60]) (by decide) (by decide) (by decide) (by decide) (by decide)) ⟨_, _, rfl, by decide⟩⟩
  · exact ⟨(10, [60, 61]), 6, 2, OpT.of 22 rfl (by decide) rfl (by decide) (lx_spm (m := [60, 61]) (by decide) (by decide) (by decide) (by decide) (by decide)) ⟨_, _, rfl, by decide⟩⟩
  · exact ⟨(10, [62]), 6, 2, OpT.of 23 rfl (by decide) rfl (by decide) (lx_spm (m := [62]) (by decide) (by decide) (by decide) (by decide) (by decide)) ⟨_, _, rfl, by decide⟩⟩
  · exact ⟨(10, [62, 61]), 6, 2, OpT.of 24 rfl (by decide) rfl (by decide) (lx_spm (m := [62, 61]) (by decide) (by decide) (by decide) (by decide) (by decide)) ⟨_, _, rfl, by decide⟩⟩
  · exact ⟨(10, [43]), 7, 0, OpT.of 14 rfl (by decide) rfl (by decide) (lx_spm (m := [43]) (by decide) (by decide) (by decide) (by decide) (by decide)) ⟨_, _, rfl, by decide⟩⟩
  · exact ⟨(10, [45]), 7, 0, OpT.of 15 rfl (by decide) rfl (by decide) (lx_spm (m := [45]) (by decide) (by decide) (by decide) (by decide) (by decide)) ⟨_, _, rfl, by decide⟩⟩
  · exact ⟨(10, [42]), 8, 0, OpT.of 16 rfl (by decide) rfl (by decide) (lx_spm (m := [42]) (by decide) (by decide) (by decide) (by decide) (by decide)) ⟨_, _, rfl, by decide⟩⟩
  · exact ⟨(10, [47]), 8, 0, OpT.of 17 rfl (by decide) rfl (by decide) (lx_spm (m := [47]) (by decide) (by decide) (by decide) (by decide) (by decide)) ⟨_, _, rfl, by decide⟩⟩
  · exact ⟨(10, [37]), 8, 0, OpT.of 18 rfl (by decide) rfl (by decide) (lx_spm (m := [37]) (by decide) (by decide) (by decide) (by decide) (by decide)) ⟨_, _, rfl, by decide⟩⟩
end Go.Proofs.YtdjleoglphgdgaaGreatDoor
namespace Go.Proofs.YtdjleoglphgdgaaGreatDoor
open Go.RowKit Go.Shelf Go.Sort
set_option linter.unusedVariables false
set_option linter.unusedSimpArgs false

/-- parts have few kids -/
def KbT : Nat → NT → Prop
  | 0, _ => True
  | h + 1, A => A.kids.length ≤ 140737488355328 ∧ ∀ i, i < A.kids.length → KbT h (A.kids.getD i nn0)
def FulI (h : Nat) (k : NT) : Prop := ∃ T, Ful (shT h k) T k
theorem emp_l {x : ByteArray} (h : x.toList.isEmpty = true) : x = .empty := by
  rw [Lib.toList_data] at h
  exact empty_l.1 h
theorem bare_vt {k : Int} {nm tx : ByteArray} {is : List VT} {ks : List ByteArray} (h : bareB nm tx is.length ks.length = true) : VT.mk k nm tx is ks = .mk k .empty .empty [] [] := by
  unfold bareB at h
  simp only [Bool.and_eq_true, decide_eq_true_eq] at h
  obtain ⟨⟨⟨h1, h2⟩, h3⟩, h4⟩ := h
  rw [emp_l h1, emp_l h2, List.length_eq_zero_iff.1 h3, List.length_eq_zero_iff.1 h4]
theorem ok_runes {x : ByteArray} (h : okB x.data.toList = true) : txt (runes x.data.toList) = x.data.toList := by
  unfold okB at h
  exact of_decide_eq_true h
theorem lx_qt {x : ByteArray} (h : okB x.data.toList = true) : Lx An (pQt x) [(6, x.data.toList)] := by
  have := lx_str (zs := runes x.data.toList) (runes_isR _)
  rw [ok_runes h] at this
  exact this
theorem dig_dg {c : UInt8} (h : Pl.isDig c = true) : dgB c = true := by
  unfold Pl.isDig at h
  unfold dgB
  simp only [Bool.and_eq_true, decide_eq_true_eq] at h
  exact decide_eq_true h
/-- a number that isn't below nothing -/
theorem num_dg {x : List UInt8} (h : Pl.formed x = true) (h2 : 0 ≤ Pl.cmpN x [48]) : (∀ c ∈ x, dgB c = true) ∧ x ≠ [] := by
  have hn : Pl.neg x = false := by
    cases hn : Pl.neg x with
    | false => rfl
    | true =>
      unfold Pl.cmpN at h2
      rw [h, hn, show Pl.formed [48] = true from rfl, show Pl.neg [48] = false from rfl] at h2
      simp at h2
  unfold Pl.formed at h
  rw [show Pl.body x = x by unfold Pl.body; rw [hn]; rfl] at h
  rcases Bool.or_eq_true_iff.1 h with h | h
  · have : x = [48] := by simpa using h
    rw [this]
    exact ⟨by decide, by decide⟩
  · unfold Pl.plainB at h
    split at h
    · cases h
    · rw [Bool.and_eq_true] at h
      exact ⟨fun c hc => dig_dg (List.all_eq_true.1 h.2 c hc), List.cons_ne_nil _ _⟩
theorem len1 {α : Type} {l : List α} (h : l.length = 1) : ∃ a, l = [a] := by
  match l, h with
  | [a], _ => exact ⟨a, rfl⟩
theorem len2 {α : Type} {l : List α} (h : l.length = 2) : ∃ a b, l = [a, b] := by
  match l, h with
  | [a, b], _ => exact ⟨a, b, rfl⟩
theorem len3 {α : Type} {l : List α} (h : l.length = 3) : ∃ a b c, l = [a, b, c] := by
  match l, h with
  | [a, b, c], _ => exact ⟨a, b, c, rfl⟩
/-- what is known of a part -/
structure FpO (h : Nat) (op : Int) (tx : ByteArray) (V : VT) (ns : List ByteArray) (ks : List NT) : Prop where
  mf : mfB op (ks.length : Int) = true
  kf : ∀ i, i < ks.length → kfB (fpN h) op ks i (ks.getD i nn0) = true
  tt : ttB op tx = true
  vf : vfB (h + 1) op V = true
  ns : nsB op ns = true
theorem fp_all {h : Nat} {op at_ : Int} {tx : ByteArray} {V : VT} {ns : List ByteArray} {ks : List NT} (hf : fpN (h + 1) (.mk op at_ tx V ns ks) = true) : FpO h op tx V ns ks := by
  rw [fpN] at hf
  simp only [Bool.and_eq_true, List.all_eq_true, List.mem_range] at hf
  exact ⟨hf.1.1.1.1, hf.1.1.1.2, hf.1.1.2, hf.1.2, hf.2⟩
theorem FpO.kid {h : Nat} {op : Int} {tx : ByteArray} {V : VT} {ns : List ByteArray} {ks : List NT} (f : FpO h op tx V ns ks) (h3 : op ≠ 8) {i : Nat} (hi : i < ks.length) : fpN h (ks.getD i nn0) = true := by
  have := f.kf i hi
  unfold kfB at this
  rw [if_neg (by rintro ⟨a, _⟩; exact h3 a)] at this
  split at this
  · simp only [Bool.and_eq_true] at this
    exact this.2
  · exact this
theorem FpO.val {h : Nat} {op : Int} {tx : ByteArray} {V : VT} {ns : List ByteArray} {ks : List NT} (f : FpO h op tx V ns ks) (h2 : op ≠ 2) : V = vtN := by
  have := f.vf
  unfold vfB at this
  rw [if_neg h2] at this
  exact sq_iff.1 this
theorem FpO.txt {h : Nat} {op : Int} {tx : ByteArray} {V : VT} {ns : List ByteArray} {ks : List NT} (f : FpO h op tx V ns ks) (h2 : nmO op = false) : tx = .empty := by
  have := f.tt
  unfold ttB at this
  rw [h2, if_neg (by decide)] at this
  exact empty_l.1 this
theorem FpO.pln {h : Nat} {op : Int} {tx : ByteArray} {V : VT} {ns : List ByteArray} {ks : List NT} (f : FpO h op tx V ns ks) (h2 : nmO op = true) : plainW tx.data.toList = true := by
  have := f.tt
  unfold ttB at this
  rw [h2, if_pos rfl] at this
  exact this
theorem FpO.nms {h : Nat} {op : Int} {tx : ByteArray} {V : VT} {ns : List ByteArray} {ks : List NT} (f : FpO h op tx V ns ks) (h2 : op ≠ 32) : ns = [] := by
  have := f.ns
  unfold nsB at this
  rw [if_neg h2] at this
  exact List.isEmpty_iff.1 this
/-- a constant -/
theorem ful_const {h : Nat} {at_ : Int} {tx : ByteArray} {V : VT} {ns : List ByteArray} {ks : List NT} (f : FpO h 2 tx V ns ks) : FulI (h + 1) (.mk 2 at_ tx V ns ks) := by
  obtain rfl := f.txt rfl
  obtain rfl := f.nms (by decide)
  have hk : ks.length = 0 := by have := f.mf; simp [mfB] at this; rw [this]; rfl
  obtain rfl := List.length_eq_zero_iff.1 hk
  have e : shT (h + 1) (.mk 2 at_ .empty V [] []) = pCn V := by rw [shT_up]; rfl
  have hv := f.vf
  unfold vfB at hv
  rw [if_pos rfl] at hv
  unfold FulI
  rw [e]
  obtain ⟨k, nm, vt, is, kys⟩ := V
  have hv : (if k = 0 ∨ k = 1 ∨ k = 2 ∨ k = 4 then formN (h + 1) (.mk k nm vt is kys) else if k = 3 then (formN (h + 1) (.mk k nm vt is kys) && decide (0 ≤ Pl.cmpN nm.data.toList [48])) else false) = true := hv
  by_cases h1 : k = 0 ∨ k = 1 ∨ k = 2
  · rw [if_pos (by omega), formN] at hv
    rcases h1 with rfl | rfl | rfl
    · have hv : bareB nm vt is.length kys.length = true := hv
      rw [bare_vt (k := 0) hv]
      exact ⟨_, .base (lx_own (x := [110, 117, 108, 108]) (by decide)) ⟨_, _, rfl, by decide⟩ (.term fun ws nb => term_const _ (.inl ⟨rfl, rfl⟩))⟩
    · have hv : bareB nm vt is.length kys.length = true := hv
      rw [bare_vt (k := 1) hv]
      exact ⟨_, .base (lx_own (x := [102, 97, 108, 115, 101]) (by decide)) ⟨_, _, rfl, by decide⟩ (.term fun ws nb => term_const _ (.inr (.inr (.inl ⟨rfl, rfl⟩))))⟩
    · have hv : bareB nm vt is.length kys.length = true := hv
      rw [bare_vt (k := 2) hv]
      exact ⟨_, .base (lx_own (x := [116, 114, 117, 101]) (by decide)) ⟨_, _, rfl, by decide⟩ (.term fun ws nb => term_const _ (.inr (.inl ⟨rfl, rfl⟩)))⟩
  · by_cases h4 : k = 4
    · subst h4
      rw [if_pos (by omega), formN] at hv
      have hv : (okB vt.data.toList && bareB nm .empty is.length kys.length) = true := hv
      rw [Bool.and_eq_true] at hv
      obtain ⟨hk, hb⟩ := hv
      have hb := bare_vt (k := 4) hb
      simp only [VT.mk.injEq] at hb
      obtain ⟨_, rfl, _, rfl, rfl⟩ := hb
      exact ⟨_, .base (lx_qt hk).any ⟨_, _, rfl, by decide⟩ (.term fun ws nb => term_const _ (.inr (.inr (.inr (.inr ⟨_, rfl, rfl⟩)))))⟩
    · rw [if_neg (by omega)] at hv
      by_cases h3 : k = 3
      · subst h3
        rw [if_pos rfl, Bool.and_eq_true, formN, decide_eq_true_eq] at hv
        obtain ⟨hv, hc⟩ := hv
        have hv : (Pl.formed nm.data.toList && bareB .empty vt is.length kys.length) = true := hv
        rw [Bool.and_eq_true] at hv
        obtain ⟨hk, hb⟩ := hv
        have hb := bare_vt (k := 3) hb
        simp only [VT.mk.injEq] at hb
        obtain ⟨_, _, rfl, rfl, rfl⟩ := hb
        obtain ⟨d1, d2⟩ := num_dg hk hc
        have hlx := lx_num hk d1 d2
        refine ⟨_, hlx, fun b => absurd ⟨rfl, rfl⟩ b.2.2, ?_, .term fun ws nb => term_const _ (.inr (.inr (.inr (.inl ⟨_, rfl, rfl⟩))))⟩
        show ∃ c u, nm.data.toList = c :: u ∧ c ≠ 61
        cases hl : nm.data.toList with
        | nil => exact absurd hl d2
        | cons c u => exact ⟨c, u, rfl, (dg_chr (d1 c (by rw [hl]; exact List.mem_cons_self))).2.2.2.2.2.1⟩
      · rw [if_neg h3] at hv
        cases hv
/-- rows behind semicolons -/
noncomputable def rwX (h : Nat) (ks : List NT) : List UInt8 := ks.flatMap fun k => [59, 32] ++ shT h k
theorem rwX_cons (h : Nat) (k : NT) (ks : List NT) : rwX h (k :: ks) = ([59, 32] ++ shT h k) ++ rwX h ks := rfl
theorem rw_tail (h : Nat) : ∀ (ks : List NT) (f : Nat → NT), (∀ i, i < ks.length → f i = ks.getD i nn0) → ((List.range ks.length).flatMap fun i => [59, 32] ++ shT h (f i)) = rwX h ks
  | [], f, _ => rfl
  | k :: ks, f, hf => by
    rw [List.length_cons, List.range_succ_eq_map, List.flatMap_cons, List.flatMap_map, rwX_cons, hf 0 (by simp), ← rw_tail h ks (fun i => f (i + 1)) fun i hi => by rw [hf (i + 1) (by simp; omega)]; rfl]
    rfl
theorem rw_eq (h : Nat) (k : NT) (ks : List NT) : pRw (fun i => shT h ((k :: ks).getD i nn0)) (ks.length + 1) = shT h k ++ rwX h ks := by
  unfold pRw
  rw [List.range_succ_eq_map, List.flatMap_cons, List.flatMap_map, ← rw_tail h ks (fun i => ks.getD i nn0) fun i hi => rfl]
  rfl
theorem row_lx {h : Nat} : ∀ ks : List NT, (∀ k ∈ ks, FulI h k) → ∃ Ls, (∀ ws nb, PipL ws nb Ls ks) ∧ Lx (FsP nnP) (rwX h ks) (rowS Ls)
  | [], _ => ⟨[], fun _ _ => .nil, lx_nil⟩
  | k :: ks, hk => by
    obtain ⟨T, f⟩ := hk k List.mem_cons_self
    obtain ⟨Ls, h1, h2⟩ := row_lx ks fun x hx => hk x (List.mem_cons_of_mem _ hx)
    refine ⟨T :: Ls, fun ws nb => .cons (f.par.pi ws nb) (h1 ws nb), ?_⟩
    have h3 : Lx An [59, 32] [(10, [59])] := (lx_one (c := 59) (by decide)).app lx_sp fun _ _ => trivial
    have h4 : Lx (FsP nnP) ([59, 32] ++ shT h k) ([(10, [59])] ++ T) := h3.app f.lx fun _ _ => trivial
    exact h4.app h2 fun r hr => rw_fs ks r hr
where
  rw_fs {h : Nat} (ks : List NT) (r : List UInt8) (hr : FsP nnP r) : FsP nnP (rwX h ks ++ r) := by
    cases ks with
    | nil => exact hr
    | cons k ks => exact fs_cons (by decide)
theorem rw_fs {h : Nat} (ks : List NT) (r : List UInt8) (hr : FsP nnP r) : FsP nnP (rwX h ks ++ r) := by
  cases ks with
  | nil => exact hr
  | cons k ks => exact fs_cons (by decide)
end Go.Proofs.YtdjleoglphgdgaaGreatDoor
namespace Go.Proofs.YtdjleoglphgdgaaGreatDoor
open Go.RowKit Go.Shelf Go.Sort
set_option linter.unusedVariables false
set_option linter.unusedSimpArgs false

theorem ful_self {h : Nat} {at_ : Int} {tx : ByteArray} {V : VT} {ns : List ByteArray} {ks : List NT} (f : FpO h 1 tx V ns ks) : FulI (h + 1) (.mk 1 at_ tx V ns ks) ∧ (.mk 1 at_ tx V ns ks : NT) = .mk 1 at_ .empty vtN [] [] ∧ shT (h + 1) (.mk 1 at_ tx V ns ks) = [46] := by
  obtain rfl := f.txt rfl
  obtain rfl := f.nms (by decide)
  obtain rfl := f.val (by decide)
  have hk : ks.length = 0 := by have := f.mf; simp [mfB] at this; rw [this]; rfl
  obtain rfl := List.length_eq_zero_iff.1 hk
  have e : shT (h + 1) (.mk 1 at_ .empty vtN [] []) = [46] := by rw [shT_up]; rfl
  refine ⟨?_, rfl, e⟩
  unfold FulI
  rw [e]
  exact ⟨_, lx_dot, fun b => absurd rfl b.2.1, ⟨_, _, rfl, by decide⟩, .term fun ws nb => term_self⟩
theorem self_shape {h : Nat} {a : NT} (hf : fpN h a = true) (ho : a.op = 1) : ∃ at_, a = .mk 1 at_ .empty vtN [] [] ∧ pBs (shT h a) a = [46] := by
  cases h with
  | zero => cases hf
  | succ h =>
    obtain ⟨op, at_, tx, V, ns, ks⟩ := a
    have ho : op = 1 := ho
    subst ho
    obtain ⟨_, e1, e2⟩ := ful_self (at_ := at_) (fp_all hf)
    refine ⟨at_, e1, ?_⟩
    rw [e2, e1]
    rfl
theorem txt_shape {h : Nat} {a : NT} (hf : fpN h a = true) (ho : a.op = 2) (hv : a.value.kind = 4) : ∃ at_ x, a = .mk 2 at_ .empty (.mk 4 .empty x [] []) [] [] ∧ okB x.data.toList = true := by
  cases h with
  | zero => cases hf
  | succ h =>
    obtain ⟨op, at_, tx, V, ns, ks⟩ := a
    have ho : op = 2 := ho
    subst ho
    have f := fp_all hf
    obtain rfl := f.txt rfl
    obtain rfl := f.nms (by decide)
    have hk : ks.length = 0 := by have := f.mf; simp [mfB] at this; rw [this]; rfl
    obtain rfl := List.length_eq_zero_iff.1 hk
    obtain ⟨k, nm, vt, is, kys⟩ := V
    have hv : k = 4 := hv
    subst hv
    have hv := f.vf
    unfold vfB at hv
    rw [if_pos rfl, if_pos (by simp [VT.kind]), formN] at hv
    have hv : (okB vt.data.toList && bareB nm .empty is.length kys.length) = true := hv
    rw [Bool.and_eq_true] at hv
    obtain ⟨hk, hb⟩ := hv
    have hb := bare_vt (k := 4) hb
    simp only [VT.mk.injEq] at hb
    obtain ⟨_, rfl, _, rfl, rfl⟩ := hb
    exact ⟨at_, vt, rfl, hk⟩
theorem ptx_iff {k : NT} : pTx k = true ↔ k.op = 2 ∧ k.value.kind = 4 := by
  unfold pTx
  rw [Bool.and_eq_true, decide_eq_true_iff, decide_eq_true_iff]
theorem ful_var {h : Nat} {at_ : Int} {tx : ByteArray} {V : VT} {ns : List ByteArray} {ks : List NT} (f : FpO h 6 tx V ns ks) : FulI (h + 1) (.mk 6 at_ tx V ns ks) := by
  obtain rfl := f.nms (by decide)
  obtain rfl := f.val (by decide)
  have hk : ks.length = 0 := by have := f.mf; simp [mfB] at this; rw [this]; rfl
  obtain rfl := List.length_eq_zero_iff.1 hk
  have e : shT (h + 1) (.mk 6 at_ tx vtN [] []) = 36 :: tx.data.toList := by rw [shT_up]; rfl
  unfold FulI
  rw [e]
  exact ⟨_, .base (lx_var (f.pln rfl)) ⟨_, _, rfl, by decide⟩ (.term fun ws nb => term_var)⟩
theorem ful_break {h : Nat} {at_ : Int} {tx : ByteArray} {V : VT} {ns : List ByteArray} {ks : List NT} (f : FpO h 35 tx V ns ks) : FulI (h + 1) (.mk 35 at_ tx V ns ks) := by
  obtain rfl := f.nms (by decide)
  obtain rfl := f.val (by decide)
  have hk : ks.length = 0 := by have := f.mf; simp [mfB] at this; rw [this]; rfl
  obtain rfl := List.length_eq_zero_iff.1 hk
  have e : shT (h + 1) (.mk 35 at_ tx vtN [] []) = ([98, 114, 101, 97, 107] ++ [32]) ++ (36 :: tx.data.toList) := by rw [shT_up]; rfl
  unfold FulI
  rw [e]
  exact ⟨_, .base ((lx_ownsp (x := [98, 114, 101, 97, 107]) (by decide)).app (lx_var (f.pln rfl)) fun _ _ => trivial) ⟨_, _, rfl, by decide⟩ (.term fun ws nb => term_break)⟩
/-- kids that are told -/
def KdI (h : Nat) (ks : List NT) : Prop := ∀ k ∈ ks, fpN h k = true ∧ FulI h k
theorem ful_list {h : Nat} {at_ : Int} {tx : ByteArray} {V : VT} {ns : List ByteArray} {ks : List NT} (f : FpO h 4 tx V ns ks) (hk : KdI h ks) : FulI (h + 1) (.mk 4 at_ tx V ns ks) := by
  obtain rfl := f.txt rfl
  obtain rfl := f.nms (by decide)
  obtain rfl := f.val (by decide)
  have hl : ks.length ≤ 1 := by have := f.mf; simp [mfB] at this; omega
  unfold FulI
  match ks, hl, hk with
  | [], _, _ =>
    have e : shT (h + 1) (.mk 4 at_ .empty vtN [] []) = [91] ++ [93] := by rw [shT_up]; rfl
    rw [e]
    exact ⟨_, .base (((lx_one (c := 91) (by decide)).app (lx_one (c := 93) (by decide)) fun _ _ => trivial).any) ⟨_, _, rfl, by decide⟩ (.term fun ws nb => term_list0)⟩
  | [a], _, hk =>
    obtain ⟨_, T, fa⟩ := hk a (by simp)
    have e : shT (h + 1) (.mk 4 at_ .empty vtN [] [a]) = [91] ++ (shT h a ++ [93]) := by rw [shT_up]; show [91] ++ (pRw _ 1 ++ [93]) = _; unfold pRw; simp; rfl
    rw [e]
    exact ⟨_, .base (((lx_one (c := 91) (by decide)).app (fa.lx.app (lx_one (c := 93) (by decide)) fun _ _ => fs_cons (by decide)) fun _ _ => trivial).any) ⟨_, _, rfl, by decide⟩ (.term fun ws nb => term_list1 (fa.par.pi ws nb))⟩
theorem ful_index {h : Nat} {at_ : Int} {tx : ByteArray} {V : VT} {ns : List ByteArray} {ks : List NT} (f : FpO h 7 tx V ns ks) (hk : KdI h ks) : FulI (h + 1) (.mk 7 at_ tx V ns ks) := by
  obtain rfl := f.txt rfl
  obtain rfl := f.nms (by decide)
  obtain rfl := f.val (by decide)
  obtain ⟨a, b, rfl⟩ := len2 (l := ks) (by have := f.mf; simp [mfB] at this; omega)
  obtain ⟨ha, Ta, fa⟩ := hk a (by simp)
  obtain ⟨hb, Tb, fb⟩ := hk b (by simp)
  have e : shT (h + 1) (.mk 7 at_ .empty vtN [] [a, b]) = pBs (shT h a) a ++ (if pTx b = true ∧ namedB b.value.text.data.toList = true then (if a.op = 1 then [] else [46]) ++ b.value.text.data.toList else [91] ++ (shT h b ++ [93])) := by rw [shT_up]; rfl
  unfold FulI
  rw [e]
  obtain ⟨T', d1, d2, d3, d4⟩ := dress_b fa
  by_cases hn : pTx b = true ∧ namedB b.value.text.data.toList = true
  · rw [if_pos hn]
    obtain ⟨at3, x, rfl, hx⟩ := txt_shape hb (ptx_iff.1 hn.1).1 (ptx_iff.1 hn.1).2
    have hn2 : namedB x.data.toList = true := hn.2
    show ∃ T, Ful (pBs (shT h a) a ++ ((if a.op = 1 then [] else [46]) ++ x.data.toList)) T _
    by_cases ha1 : a.op = 1
    · rw [if_pos ha1]
      obtain ⟨at2, e1, e2⟩ := self_shape ha ha1
      rw [e2]
      subst e1
      exact ⟨_, .base (lx_field hn2) ⟨_, _, rfl, by decide⟩ (.term fun ws nb => term_field)⟩
    · rw [if_neg ha1]
      exact ⟨_, .base ((d2 ha1).app (lx_field hn2) fun _ _ => fs_cons (by decide)) (hd_app d3) (.term fun ws nb => term_dot (d4 ws nb))⟩
  · rw [if_neg hn]
    have h2 : Lx An ([91] ++ (shT h b ++ [93])) ([(10, [91])] ++ (Tb ++ [(10, [93])])) := (lx_one (c := 91) (by decide)).app (fb.lx.app (lx_one (c := 93) (by decide)) fun _ _ => fs_cons (by decide)) fun _ _ => trivial
    exact ⟨_, .base ((d1.app h2 fun _ _ => fs_cons (by decide)).any) (hd_app d3) (.term fun ws nb => term_index (d4 ws nb) (fb.par.pi ws nb))⟩
theorem ful_each {h : Nat} {at_ : Int} {tx : ByteArray} {V : VT} {ns : List ByteArray} {ks : List NT} (f : FpO h 9 tx V ns ks) (hk : KdI h ks) : FulI (h + 1) (.mk 9 at_ tx V ns ks) := by
  obtain rfl := f.txt rfl
  obtain rfl := f.nms (by decide)
  obtain rfl := f.val (by decide)
  obtain ⟨a, rfl⟩ := len1 (l := ks) (by have := f.mf; simp [mfB] at this; omega)
  obtain ⟨ha, Ta, fa⟩ := hk a (by simp)
  have e : shT (h + 1) (.mk 9 at_ .empty vtN [] [a]) = pBs (shT h a) a ++ ([91] ++ [93]) := by rw [shT_up]; rfl
  unfold FulI
  rw [e]
  obtain ⟨T', d1, d2, d3, d4⟩ := dress_b fa
  have h2 : Lx An ([91] ++ [93]) ([(10, [91])] ++ [(10, [93])]) := (lx_one (c := 91) (by decide)).app (lx_one (c := 93) (by decide)) fun _ _ => trivial
  exact ⟨_, .base ((d1.app h2 fun _ _ => fs_cons (by decide)).any) (hd_app d3) (.term fun ws nb => term_each (d4 ws nb))⟩
theorem ful_try {h : Nat} {at_ : Int} {tx : ByteArray} {V : VT} {ns : List ByteArray} {ks : List NT} (f : FpO h 10 tx V ns ks) (hk : KdI h ks) : FulI (h + 1) (.mk 10 at_ tx V ns ks) := by
  obtain rfl := f.txt rfl
  obtain rfl := f.nms (by decide)
  obtain rfl := f.val (by decide)
  have hl : ks.length = 1 ∨ ks.length = 2 := by have := f.mf; simp [mfB] at this; omega
  unfold FulI
  rcases hl with hl | hl
  · obtain ⟨a, rfl⟩ := len1 hl
    obtain ⟨ha, Ta, fa⟩ := hk a (by simp)
    have e : shT (h + 1) (.mk 10 at_ .empty vtN [] [a]) = pBs (shT h a) a ++ [63] := by rw [shT_up]; rfl
    rw [e]
    obtain ⟨T', d1, d2, d3, d4⟩ := dress_b fa
    exact ⟨_, .base ((d1.app (lx_one (c := 63) (by decide)) fun _ _ => fs_cons (by decide)).any) (hd_app d3) (.term fun ws nb => term_try1 (d4 ws nb))⟩
  · obtain ⟨a, b, rfl⟩ := len2 hl
    obtain ⟨ha, Ta, fa⟩ := hk a (by simp)
    obtain ⟨hb, Tb, fb⟩ := hk b (by simp)
    have e : shT (h + 1) (.mk 10 at_ .empty vtN [] [a, b]) = ([116, 114, 121] ++ [32]) ++ (pHd (shT h a) a 10 ++ (([32] ++ ([99, 97, 116, 99, 104] ++ [32])) ++ pHd (shT h b) b 10)) := by rw [shT_up]; rfl
    rw [e]
    obtain ⟨T1, d1, _, _, d4⟩ := dress_t fa (n := 10) (.inl rfl)
    obtain ⟨T2, g1, _, _, g4⟩ := dress_t fb (n := 10) (.inl rfl)
    have h2 := (lx_spo (m := [99, 97, 116, 99, 104]) (by decide)).app g1 fun _ _ => trivial
    have h3 := (lx_ownsp (x := [116, 114, 121]) (by decide)).app (d1.app h2 fun _ _ => fs_cons (by decide)) fun _ _ => trivial
    have hl : pLo (.mk 10 at_ .empty vtN [] [a, b]) = 9 := rfl
    exact ⟨_, .loose (by rw [hl]; decide) h3 ⟨_, _, rfl, by decide⟩ (.un9 (by rw [hl]; decide) fun ws nb => post_un (post_try (d4 ws nb) (g4 ws nb)))⟩
theorem ful_neg {h : Nat} {at_ : Int} {tx : ByteArray} {V : VT} {ns : List ByteArray} {ks : List NT} (f : FpO h 11 tx V ns ks) (hk : KdI h ks) : FulI (h + 1) (.mk 11 at_ tx V ns ks) := by
  obtain rfl := f.txt rfl
  obtain rfl := f.nms (by decide)
  obtain rfl := f.val (by decide)
  obtain ⟨a, rfl⟩ := len1 (l := ks) (by have := f.mf; simp [mfB] at this; omega)
  obtain ⟨ha, Ta, fa⟩ := hk a (by simp)
  have e : shT (h + 1) (.mk 11 at_ .empty vtN [] [a]) = [45] ++ ((if a.op = 11 then [32] else []) ++ pHd (shT h a) a 9) := by rw [shT_up]; rfl
  unfold FulI
  rw [e]
  obtain ⟨T', d1, d3, d4⟩ := dress_u fa
  have hl : pLo (.mk 11 at_ .empty vtN [] [a]) = 9 := rfl
  have p : Par ((10, [45]) :: T') (.mk 11 at_ .empty vtN [] [a]) := .un9 (by rw [hl]; decide) fun ws nb => un_neg (d4 ws nb) rfl
  by_cases h11 : a.op = 11
  · rw [if_pos h11]
    exact ⟨_, .loose (by rw [hl]; decide) (lx_minus.app (lx_sp.app d1 fun _ _ => trivial) fun _ _ => fs_cons (by decide)) ⟨_, _, rfl, by decide⟩ p⟩
  · rw [if_neg h11, List.nil_append]
    obtain ⟨c, u, e2, hc⟩ := d3
    refine ⟨_, .loose (by rw [hl]; decide) (lx_minus.app d1 fun r _ => ?_) ⟨_, _, rfl, by decide⟩ p⟩
    rw [e2]
    exact fs_cons (by simpa using hc)
theorem ful_if {h : Nat} {at_ : Int} {tx : ByteArray} {V : VT} {ns : List ByteArray} {ks : List NT} (f : FpO h 28 tx V ns ks) (hk : KdI h ks) : FulI (h + 1) (.mk 28 at_ tx V ns ks) := by
  obtain rfl := f.txt rfl
  obtain rfl := f.nms (by decide)
  obtain rfl := f.val (by decide)
  obtain ⟨a, b, c, rfl⟩ := len3 (l := ks) (by have := f.mf; simp [mfB] at this; omega)
  obtain ⟨ha, Ta, fa⟩ := hk a (by simp)
  obtain ⟨hb, Tb, fb⟩ := hk b (by simp)
  obtain ⟨hc, Tc, fc⟩ := hk c (by simp)
  have e : shT (h + 1) (.mk 28 at_ .empty vtN [] [a, b, c]) = ([105, 102] ++ [32]) ++ (shT h a ++ (([32] ++ ([116, 104, 101, 110] ++ [32])) ++ (shT h b ++ (([32] ++ ([101, 108, 115, 101] ++ [32])) ++ (shT h c ++ ([32] ++ [101, 110, 100])))))) := by rw [shT_up]; rfl
  unfold FulI
  rw [e]
  have h1 : Lx (FsP nbP) ([32] ++ [101, 110, 100]) ([] ++ [(2, [101, 110, 100])]) := lx_sp.app (lx_own (x := [101, 110, 100]) (by decide)) fun _ _ => trivial
  have h2 := fc.lx.app h1 fun _ _ => fs_cons (by decide)
  have h3 := fb.lx.app ((lx_spo (m := [101, 108, 115, 101]) (by decide)).app h2 fun _ _ => trivial) fun _ _ => fs_cons (by decide)
  have h4 := fa.lx.app ((lx_spo (m := [116, 104, 101, 110]) (by decide)).app h3 fun _ _ => trivial) fun _ _ => fs_cons (by decide)
  exact ⟨_, .base ((lx_ownsp (x := [105, 102]) (by decide)).app h4 fun _ _ => trivial) ⟨_, _, rfl, by decide⟩ (.term fun ws nb => term_if (fa.par.pi ws nb) (fb.par.pi ws nb) (fc.par.pi ws nb))⟩
theorem lx_as {x : ByteArray} (hx : plainW x.data.toList = true) : Lx An ([32, 97, 115, 32, 36] ++ (x.data.toList ++ [32])) [(2, [97, 115]), (3, x.data.toList)] := (lx_spo (m := [97, 115]) (by decide)).app ((lx_var hx).app lx_sp fun _ _ => fs_cons (by decide)) fun _ _ => trivial
theorem ful_bind {h : Nat} {at_ : Int} {tx : ByteArray} {V : VT} {ns : List ByteArray} {ks : List NT} (f : FpO h 29 tx V ns ks) (hk : KdI h ks) : FulI (h + 1) (.mk 29 at_ tx V ns ks) := by
  obtain rfl := f.nms (by decide)
  obtain rfl := f.val (by decide)
  obtain ⟨a, b, rfl⟩ := len2 (l := ks) (by have := f.mf; simp [mfB] at this; omega)
  obtain ⟨ha, Ta, fa⟩ := hk a (by simp)
  obtain ⟨hb, Tb, fb⟩ := hk b (by simp)
  have e : shT (h + 1) (.mk 29 at_ tx vtN [] [a, b]) = (pHd (shT h a) a 10 ++ ([32, 97, 115, 32, 36] ++ (tx.data.toList ++ [32]))) ++ (([124] ++ [32]) ++ shT h b) := by rw [shT_up]; rfl
  unfold FulI
  rw [e]
  obtain ⟨T1, d1, _, d3, d4⟩ := dress_t fa (n := 10) (.inl rfl)
  have h1 := d1.app (lx_as (f.pln rfl)) fun _ _ => fs_cons (by decide)
  have h2 : Lx (FsP nnP) (([124] ++ [32]) ++ shT h b) ([(10, [124])] ++ Tb) := (lx_mksp (m := [124]) (by decide) (by decide) (by decide) (by decide) (by decide)).app fb.lx fun _ _ => trivial
  have h3 := h1.app h2 fun _ _ => trivial
  rw [List.append_assoc T1] at h3
  have hl : pLo (.mk 29 at_ tx vtN [] [a, b]) = 0 := rfl
  exact ⟨_, .loose (by rw [hl]; decide) h3 (hd_app (hd_app d3)) (.pip hl fun ws nb => pip_bind (d4 ws nb) (fb.par.pi ws nb))⟩
theorem ful_label {h : Nat} {at_ : Int} {tx : ByteArray} {V : VT} {ns : List ByteArray} {ks : List NT} (f : FpO h 34 tx V ns ks) (hk : KdI h ks) : FulI (h + 1) (.mk 34 at_ tx V ns ks) := by
  obtain rfl := f.nms (by decide)
  obtain rfl := f.val (by decide)
  obtain ⟨a, rfl⟩ := len1 (l := ks) (by have := f.mf; simp [mfB] at this; omega)
  obtain ⟨ha, Ta, fa⟩ := hk a (by simp)
  have e : shT (h + 1) (.mk 34 at_ tx vtN [] [a]) = (([108, 97, 98, 101, 108] ++ [32]) ++ ((36 :: tx.data.toList) ++ ([32] ++ ([124] ++ [32])))) ++ shT h a := by rw [shT_up]; rfl
  unfold FulI
  rw [e]
  have h1 := (lx_var (f.pln rfl)).app (lx_spm (m := [124]) (by decide) (by decide) (by decide) (by decide) (by decide)) fun _ _ => fs_cons (by decide)
  have h2 := ((lx_ownsp (x := [108, 97, 98, 101, 108]) (by decide)).app h1 fun _ _ => trivial).app fa.lx fun _ _ => trivial
  have hl : pLo (.mk 34 at_ tx vtN [] [a]) = 0 := rfl
  exact ⟨_, .loose (by rw [hl]; decide) h2 ⟨_, _, rfl, by decide⟩ (.pip hl fun ws nb => pip_label (fa.par.pi ws nb))⟩
end Go.Proofs.YtdjleoglphgdgaaGreatDoor
namespace Go.Proofs.YtdjleoglphgdgaaGreatDoor
open Go.RowKit Go.Shelf Go.Sort
set_option linter.unusedVariables false
set_option linter.unusedSimpArgs false

theorem fp_op {h : Nat} {k : NT} (hf : fpN h k = true) : k.op ≠ 0 ∧ 0 ≤ pLo k ∧ pLo k ≤ 10 := by
  cases h with
  | zero => cases hf
  | succ h =>
    obtain ⟨op, at_, tx, V, ns, ks⟩ := k
    have f := fp_all hf
    refine ⟨fun e => ?_, ?_⟩
    · have e : op = 0 := e
      have := f.mf
      rw [e] at this
      simp [mfB] at this
    · have h10 : op = 10 → ks.length = 1 ∨ ks.length = 2 := fun e => by have := f.mf; rw [e] at this; simp [mfB] at this; omega
      have ht : ∀ r ∈ pTab, r.2.1 ≤ 10 := by decide
      have hr : (pRow op).2.1 ≤ 10 := by
        unfold pRow
        split
        · exact Nat.zero_le _
        · by_cases h : op.toNat < pTab.length
          · rw [List.getD_eq_getElem?_getD, List.getElem?_eq_getElem h]
            exact ht _ (List.getElem_mem _)
          · rw [List.getD_eq_getElem?_getD, List.getElem?_eq_none (by omega)]
            exact Nat.zero_le _
      unfold pLo
      show 0 ≤ (if op = 29 ∨ op = 32 ∨ op = 34 then (0 : Int) else if op = 11 then 9 else if op = 10 then 11 - (ks.length : Int) else if pSg op ≠ [] then ((pRow op).2.1 : Int) else 10) ∧ (if op = 29 ∨ op = 32 ∨ op = 34 then (0 : Int) else if op = 11 then 9 else if op = 10 then 11 - (ks.length : Int) else if pSg op ≠ [] then ((pRow op).2.1 : Int) else 10) ≤ 10
      split
      · omega
      · split
        · omega
        · split
          · next h => have := h10 h; omega
          · split <;> omega
/-- a row in brackets -/
theorem row_paren {h : Nat} {k : NT} {ks : List NT} (hk : FulI h k) (hks : ∀ k ∈ ks, FulI h k) : ∃ L Ls, (∀ ws nb, PipC ws nb L k) ∧ (∀ ws nb, PipL ws nb Ls ks) ∧ Lx An ([40] ++ ((shT h k ++ rwX h ks) ++ [41])) ((10, [40]) :: (L ++ (rowS Ls ++ [(10, [41])]))) := by
  obtain ⟨T, f⟩ := hk
  obtain ⟨Ls, h1, h2⟩ := row_lx ks hks
  refine ⟨T, Ls, f.par.pi, h1, ?_⟩
  have := lx_paren (f.lx.app h2 fun r hr => rw_fs ks r hr)
  rw [List.append_assoc T] at this
  exact this
theorem ful_call {h : Nat} {at_ : Int} {tx : ByteArray} {V : VT} {ns : List ByteArray} {ks : List NT} (f : FpO h 33 tx V ns ks) (hk : KdI h ks) (hl : ks.length ≤ 140737488355328) : FulI (h + 1) (.mk 33 at_ tx V ns ks) := by
  obtain rfl := f.nms (by decide)
  obtain rfl := f.val (by decide)
  unfold FulI
  cases ks with
  | nil =>
    have e : shT (h + 1) (.mk 33 at_ tx vtN [] []) = tx.data.toList ++ [] := by rw [shT_up]; rfl
    rw [e, List.append_nil]
    refine ⟨_, .base (lx_plain (f.pln rfl)) ?_ (.term fun ws nb => term_call0)⟩
    have hp := f.pln rfl
    unfold plainW at hp
    rw [Bool.and_eq_true] at hp
    obtain ⟨c, u, e2, h1, h2⟩ := named_open hp.1
    exact ⟨c, u, e2, (le_chr h1).2.2.2.2⟩
  | cons k ks =>
    have e : shT (h + 1) (.mk 33 at_ tx vtN [] (k :: ks)) = tx.data.toList ++ ([40] ++ ((shT h k ++ rwX h ks) ++ [41])) := by rw [← rw_eq, shT_up]; rfl
    rw [e]
    obtain ⟨L, Ls, h1, h2, h3⟩ := row_paren (hk k List.mem_cons_self).2 fun x hx => (hk x (List.mem_cons_of_mem _ hx)).2
    rw [List.length_cons] at hl
    refine ⟨_, .base ((lx_plain (f.pln rfl)).app h3.any fun _ _ => fs_cons (by decide)) (hd_app ?_) (.term fun ws nb => term_call (h1 ws nb) (h2 ws nb) (by omega))⟩
    have hp := f.pln rfl
    unfold plainW at hp
    rw [Bool.and_eq_true] at hp
    obtain ⟨c, u, e2, h1, h2⟩ := named_open hp.1
    exact ⟨c, u, e2, (le_chr h1).2.2.2.2⟩
theorem ful_loop {h : Nat} {op at_ : Int} {tx : ByteArray} {V : VT} {ns : List ByteArray} {ks : List NT} (ho : op = 30 ∨ op = 31) (f : FpO h op tx V ns ks) (hk : KdI h ks) : FulI (h + 1) (.mk op at_ tx V ns ks) := by
  obtain rfl := f.nms (by omega)
  obtain rfl := f.val (by omega)
  have hpl : plainW tx.data.toList = true := f.pln (by rcases ho with rfl | rfl <;> rfl)
  have hl : op = 30 ∧ ks.length = 3 ∨ op = 31 ∧ (ks.length = 3 ∨ ks.length = 4) := by
    have := f.mf
    rcases ho with rfl | rfl
    · simp [mfB] at this; omega
    · simp [mfB] at this; omega
  match ks, hl, hk with
  | a :: k :: ks, hl, hk =>
    obtain ⟨s, hs⟩ : ∃ s : List UInt8, s = [114, 101, 100, 117, 99, 101] ∧ op = 30 ∨ s = [102, 111, 114, 101, 97, 99, 104] ∧ op = 31 := by
      rcases ho with rfl | rfl
      · exact ⟨_, .inl ⟨rfl, rfl⟩⟩
      · exact ⟨_, .inr ⟨rfl, rfl⟩⟩
    have e : shT (h + 1) (.mk op at_ tx vtN [] (a :: k :: ks)) = (s ++ [32]) ++ ((pHd (shT h a) a 10 ++ ([32, 97, 115, 32, 36] ++ (tx.data.toList ++ [32]))) ++ ([40] ++ ((shT h k ++ rwX h ks) ++ [41]))) := by
      rw [← rw_eq, shT_up]
      rcases hs with ⟨rfl, rfl⟩ | ⟨rfl, rfl⟩ <;> rfl
    have hsm : s ∈ ownL := by rcases hs with ⟨rfl, _⟩ | ⟨rfl, _⟩ <;> decide
    unfold FulI
    rw [e]
    obtain ⟨_, Ta, fa⟩ := hk a (by simp)
    obtain ⟨T1, d1, _, d3, d4⟩ := dress_t fa (n := 10) (.inl rfl)
    obtain ⟨L, Ls, h1, h2, h3⟩ := row_paren (ks := ks) (hk k (by simp)).2 fun x hx => (hk x (by simp [hx])).2
    have g1 := (d1.app (lx_as hpl) fun _ _ => fs_cons (by decide)).app h3 fun _ _ => trivial
    rw [List.append_assoc T1] at g1
    refine ⟨_, .base (((lx_ownsp hsm).app g1 fun _ _ => trivial).any) (hd_app (hd_app ?_)) (.term fun ws nb => term_loop ?_ (d4 ws nb) (h1 ws nb) (h2 ws nb))⟩
    · rcases hs with ⟨rfl, _⟩ | ⟨rfl, _⟩ <;> exact ⟨_, _, rfl, by decide⟩
    · simp only [List.length_cons] at hl
      rcases hs with ⟨h1, h2⟩ | ⟨h1, h2⟩
      · exact .inl ⟨h1, h2, by omega⟩
      · exact .inr ⟨h1, h2, by omega, by omega⟩
/-- parameters -/
theorem lx_pm {x : ByteArray} (h : pnB x = true) : Lx (FsP nbP) x.data.toList [pmK x] := by
  unfold pnB Lib.trimPrefix at h
  unfold pmK
  cases hl : x.data.toList with
  | nil =>
    rw [hl] at h
    simp [Lib.hasPrefix, plainW, namedB] at h
  | cons c u =>
    rw [hl] at h
    by_cases hc : c = 36
    · subst hc
      have h : plainW u = true := h
      exact lx_var h
    · have hn : (36 : UInt8) ≠ c := fun e => hc e.symm
      have h : plainW (c :: u) = true := by
        have hp : Lib.hasPrefix (c :: u) [36] = false := by unfold Lib.hasPrefix; simp [List.isPrefixOf, hn]
        rw [hp] at h
        exact h
      rw [if_neg (by simp [hc])]
      exact lx_plain h
theorem pNm_cons (x y : ByteArray) (r : List ByteArray) : pNm (x :: y :: r) = x.data.toList ++ ([59, 32] ++ pNm (y :: r)) := by
  unfold pNm Lib.join
  simp [List.intercalate]
theorem lx_nm : ∀ (r : List ByteArray) (x : ByteArray), (∀ y ∈ x :: r, pnB y = true) → Lx (FsP nnP) (pNm (x :: r)) (pmK x :: pmS r)
  | [], x, h => by
    have e : pNm [x] = x.data.toList := by unfold pNm Lib.join; simp [List.intercalate]
    rw [e]
    exact (lx_pm (h x List.mem_cons_self)).nn
  | y :: r, x, h => by
    rw [pNm_cons]
    have ih := lx_nm r y fun z hz => h z (List.mem_cons_of_mem _ hz)
    have h1 : Lx (FsP nnP) ([59, 32] ++ pNm (y :: r)) ([(10, [59])] ++ (pmK y :: pmS r)) := ((lx_one (c := 59) (by decide)).app lx_sp fun _ _ => trivial : Lx An [59, 32] [(10, [59])]).app ih fun _ _ => trivial
    exact (lx_pm (h x List.mem_cons_self)).app h1 fun _ _ => fs_cons (by decide)
theorem ful_def {h : Nat} {at_ : Int} {tx : ByteArray} {V : VT} {ns : List ByteArray} {ks : List NT} (f : FpO h 32 tx V ns ks) (hk : KdI h ks) : FulI (h + 1) (.mk 32 at_ tx V ns ks) := by
  obtain rfl := f.val (by decide)
  obtain ⟨a, b, rfl⟩ := len2 (l := ks) (by have := f.mf; simp [mfB] at this; omega)
  obtain ⟨ha, Ta, fa⟩ := hk a (by simp)
  obtain ⟨hb, Tb, fb⟩ := hk b (by simp)
  have hns : ∀ y ∈ ns, pnB y = true := by
    have := f.ns
    unfold nsB at this
    rw [if_pos rfl] at this
    exact List.all_eq_true.1 this
  have e : shT (h + 1) (.mk 32 at_ tx vtN ns [a, b]) = (([100, 101, 102] ++ [32]) ++ tx.data.toList) ++ ((if ns.length = 0 then [] else [40] ++ (pNm ns ++ [41])) ++ (([58] ++ [32]) ++ (shT h a ++ (([59] ++ [32]) ++ shT h b)))) := by
    have h1 := rw_eq h a [b]
    have h2 : rwX h [b] = ([59] ++ [32]) ++ shT h b := by unfold rwX; simp
    rw [h2] at h1
    rw [← h1, shT_up]
    rfl
  unfold FulI
  rw [e]
  have hpm : Lx An (if ns.length = 0 then [] else [40] ++ (pNm ns ++ [41])) (pmL ns) := by
    cases ns with
    | nil => exact lx_nil
    | cons x r => exact lx_paren (lx_nm r x hns)
  have g1 := fa.lx.app (((lx_one (c := 59) (by decide)).app lx_sp fun _ _ => trivial).app fb.lx fun _ _ => trivial) fun _ _ => fs_cons (by decide)
  have g2 := hpm.app (((lx_one (c := 58) (by decide)).app lx_sp fun _ _ => trivial).app g1 fun _ _ => trivial) fun _ _ => trivial
  have g3 := ((lx_ownsp (x := [100, 101, 102]) (by decide)).app (lx_plain (f.pln rfl)) fun _ _ => trivial).app g2 fun r _ => by
    cases ns with
    | nil => exact fs_cons (by decide)
    | cons x r => exact fs_cons (by decide)
  have hl : pLo (.mk 32 at_ tx vtN ns [a, b]) = 0 := rfl
  have et : [(2, [100, 101, 102])] ++ [(1, tx.data.toList)] ++ (pmL ns ++ ([(10, [58])] ++ [] ++ (Ta ++ ([(10, [59])] ++ [] ++ Tb)))) = ([(2, [100, 101, 102])] ++ (((1, tx.data.toList) :: (pmL ns ++ ((10, [58]) :: (Ta ++ [(10, [59])])))) ++ Tb) : KL) := by simp
  rw [et] at g3
  exact ⟨_, .loose (by rw [hl]; decide) g3 ⟨_, _, rfl, by decide⟩ (.pip hl fun ws nb => pip_def (fa.par.pi ws nb) (fb.par.pi ws nb))⟩
/-- operations -/
theorem ful_op {h : Nat} {op at_ : Int} {tx : ByteArray} {V : VT} {ns : List ByteArray} {ks : List NT} (ho : 13 ≤ op ∧ op ≤ 27 ∨ 36 ≤ op ∧ op ≤ 43) (f : FpO h op tx V ns ks) (hk : KdI h ks) : FulI (h + 1) (.mk op at_ tx V ns ks) := by
  obtain rfl := f.nms (by omega)
  obtain rfl := f.val (by omega)
  obtain rfl := f.txt (by unfold nmO; simp only [Bool.or_eq_false_iff, beq_eq_false_iff_ne]; omega)
  have hl : ks.length = 2 := by
    have := f.mf
    unfold mfB at this
    rw [if_neg (by omega), if_neg (by omega), if_neg (by omega), if_neg (by omega), if_neg (by omega), if_neg (by omega), if_neg (by omega), if_neg (by omega), if_neg (by omega), if_neg (by omega), Bool.and_eq_true] at this
    have := eq_of_beq this.1
    omega
  obtain ⟨a, b, rfl⟩ := len2 hl
  obtain ⟨ha, Ta, fa⟩ := hk a (by simp)
  obtain ⟨hb, Tb, fb⟩ := hk b (by simp)
  obtain ⟨sg, u, g, O⟩ := opT_R ho
  obtain ⟨n, hn, R⟩ := O.r
  have hu1 := R.lo
  have hu8 := R.hi
  have e : shT (h + 1) (.mk op at_ .empty vtN [] [a, b]) = pHd (shT h a) a ((if g = 0 then u else u + 1 : Nat) : Int) ++ (pSg op ++ pHd (shT h b) b ((if g = 1 then u else u + 1 : Nat) : Int)) := by
    rw [shT_up]
    dsimp only
    rw [if_neg (show ¬ ((NT.mk op at_ ByteArray.empty vtN [] [a, b]).op = 1) by show ¬ (op = 1); omega), if_neg (show ¬ ((NT.mk op at_ ByteArray.empty vtN [] [a, b]).op = 2) by show ¬ (op = 2); omega), if_neg (show ¬ ((NT.mk op at_ ByteArray.empty vtN [] [a, b]).op = 3) by show ¬ (op = 3); omega), if_neg (show ¬ ((NT.mk op at_ ByteArray.empty vtN [] [a, b]).op = 4) by show ¬ (op = 4); omega), if_neg (show ¬ ((NT.mk op at_ ByteArray.empty vtN [] [a, b]).op = 5) by show ¬ (op = 5); omega), if_neg (show ¬ ((NT.mk op at_ ByteArray.empty vtN [] [a, b]).op = 6 ∨ (NT.mk op at_ ByteArray.empty vtN [] [a, b]).op = 35) by show ¬ (op = 6 ∨ op = 35); omega), if_neg (show ¬ ((NT.mk op at_ ByteArray.empty vtN [] [a, b]).op = 7) by show ¬ (op = 7); omega), if_neg (show ¬ ((NT.mk op at_ ByteArray.empty vtN [] [a, b]).op = 8) by show ¬ (op = 8); omega), if_neg (show ¬ ((NT.mk op at_ ByteArray.empty vtN [] [a, b]).op = 9) by show ¬ (op = 9); omega), if_neg (show ¬ ((NT.mk op at_ ByteArray.empty vtN [] [a, b]).op = 10) by show ¬ (op = 10); omega), if_neg (show ¬ ((NT.mk op at_ ByteArray.empty vtN [] [a, b]).op = 11) by show ¬ (op = 11); omega), if_neg (show ¬ ((NT.mk op at_ ByteArray.empty vtN [] [a, b]).op = 28) by show ¬ (op = 28); omega), if_neg (show ¬ ((NT.mk op at_ ByteArray.empty vtN [] [a, b]).op = 29) by show ¬ (op = 29); omega), if_neg (show ¬ ((NT.mk op at_ ByteArray.empty vtN [] [a, b]).op = 30 ∨ (NT.mk op at_ ByteArray.empty vtN [] [a, b]).op = 31) by show ¬ (op = 30 ∨ op = 31); omega), if_neg (show ¬ ((NT.mk op at_ ByteArray.empty vtN [] [a, b]).op = 32) by show ¬ (op = 32); omega), if_neg (show ¬ ((NT.mk op at_ ByteArray.empty vtN [] [a, b]).op = 33) by show ¬ (op = 33); omega), if_neg (show ¬ ((NT.mk op at_ ByteArray.empty vtN [] [a, b]).op = 34) by show ¬ (op = 34); omega)]
    show sOp op _ _ = _
    unfold sOp
    rw [O.row]
    rfl
  have hlo : pLo (.mk op at_ .empty vtN [] [a, b]) = (u : Int) := by
    unfold pLo
    show (if op = 29 ∨ op = 32 ∨ op = 34 then (0 : Int) else if op = 11 then 9 else if op = 10 then _ else if pSg op ≠ [] then ((pRow op).2.1 : Int) else 10) = u
    rw [if_neg (by omega), if_neg (by omega), if_neg (by omega), if_pos O.fs.2, O.row]
  unfold FulI
  rw [e]
  have hg := O.g1
  have hg2 := O.g2
  obtain ⟨T1, v1, d1, d2, d3, d4, d5⟩ := dress_o fa (n := if g = 0 then u else u + 1) (by split <;> omega) (by split <;> omega)
  obtain ⟨T2, v2, q1, q2, q3, q4, q5⟩ := dress_o fb (n := if g = 1 then u else u + 1) (by split <;> omega) (by split <;> omega)
  have hlx : Lx (FsP nnP) (pHd (shT h a) a ((if g = 0 then u else u + 1 : Nat) : Int) ++ (pSg op ++ pHd (shT h b) b ((if g = 1 then u else u + 1 : Nat) : Int))) (T1 ++ (sg :: T2)) := d1.app (O.lx.app q1 fun _ _ => trivial) fun r _ => by
    have h1 := O.fs
    cases hp : pSg op with
    | nil => exact absurd hp h1.2
    | cons c v =>
      rw [hp] at h1
      exact fs_cons (h1.1 c v rfl)
  have c1 : u ≤ cA v1 := by
    unfold cA
    by_cases h0 : g = 0
    · rw [if_pos h0] at d3
      split <;> omega
    · rw [if_neg h0] at d3
      split <;> omega
  refine ⟨_, .loose (by rw [hlo]; omega) hlx (hd_app d2) (.beh hlo hu1 hu8 ?_ ?_)⟩
  · intro ws nb
    by_cases h1 : g = 1
    · have h3 := hg.1 h1
      subst h1 h3
      rw [hn]
      exact beh_ch R (d4 ws nb) (q5 (by simp) ws nb) (by simpa using d3) c1
    · rw [if_neg h1] at q3
      rw [hn]
      exact beh_bin R h1 hg2 (d4 ws nb) (beh_op (q4 ws nb)) (by split at d3 <;> omega) c1 (by by_cases h0 : g = 0 <;> simp [h0] at d3 <;> omega) (by omega) (by omega)
  · intro h3 ws nb
    have h1 := hg.2 h3
    subst h1 h3
    rw [hn]
    exact ch_bin R (beh_op (d4 ws nb)) (q5 (by simp) ws nb) (by simpa using d3)
theorem ful_pipe {h : Nat} {at_ : Int} {tx : ByteArray} {V : VT} {ns : List ByteArray} {ks : List NT} (f : FpO h 12 tx V ns ks) (hk : KdI h ks) : FulI (h + 1) (.mk 12 at_ tx V ns ks) := by
  obtain rfl := f.txt rfl
  obtain rfl := f.nms (by decide)
  obtain rfl := f.val (by decide)
  obtain ⟨a, b, rfl⟩ := len2 (l := ks) (by have := f.mf; simp [mfB] at this; omega)
  obtain ⟨ha, Ta, fa⟩ := hk a (by simp)
  obtain ⟨hb, Tb, fb⟩ := hk b (by simp)
  have e : shT (h + 1) (.mk 12 at_ .empty vtN [] [a, b]) = pHd (shT h a) a ((1 : Nat) : Int) ++ (([32] ++ ([124] ++ [32])) ++ pHd (shT h b) b 0) := by rw [shT_up]; rfl
  have e2 : pHd (shT h b) b 0 = shT h b := by
    unfold pHd
    rw [decide_eq_false (by have := (fp_op hb).2.1; omega)]
    rfl
  unfold FulI
  rw [e, e2]
  obtain ⟨T1, v1, d1, d2, d3, d4, _⟩ := dress_o fa (n := 1) (by omega) (by omega)
  have hl : pLo (.mk 12 at_ .empty vtN [] [a, b]) = 0 := rfl
  have g1 := d1.app ((lx_spm (m := [124]) (by decide) (by decide) (by decide) (by decide) (by decide)).app fb.lx fun _ _ => trivial) fun _ _ => fs_cons (by decide)
  exact ⟨_, .loose (by rw [hl]; decide) g1 (hd_app d2) (.pip hl fun ws nb => pip_pipe (d4 ws nb) d3 (fb.par.pi ws nb))⟩
end Go.Proofs.YtdjleoglphgdgaaGreatDoor
namespace Go.Proofs.YtdjleoglphgdgaaGreatDoor
open Go.RowKit Go.Shelf Go.Sort
set_option linter.unusedVariables false
set_option linter.unusedSimpArgs false

/-- a slice -/
theorem none_kid {k : NT} (h : sq (noA k) (noA nn0) = true) : k.op = 0 ∧ noA k = noA (ndP 0 0 []) := by
  have h1 := sq_iff.1 h
  exact ⟨(noA_eq.1 h1).1, h1⟩
theorem ful_slice {h : Nat} {at_ : Int} {tx : ByteArray} {V : VT} {ns : List ByteArray} {ks : List NT} (f : FpO h 8 tx V ns ks) (hk : ∀ i, i < ks.length → fpN h (ks.getD i nn0) = true → FulI h (ks.getD i nn0)) : FulI (h + 1) (.mk 8 at_ tx V ns ks) := by
  obtain rfl := f.txt rfl
  obtain rfl := f.nms (by decide)
  obtain rfl := f.val (by decide)
  obtain ⟨a, b, c, rfl⟩ := len3 (l := ks) (by have := f.mf; simp [mfB] at this; omega)
  have ka : fpN h a = true := by
    have := f.kf 0 (by simp)
    unfold kfB at this
    rw [if_neg (by rintro ⟨_, h, _⟩; omega), if_neg (by rintro ⟨h, _⟩; revert h; decide)] at this
    exact this
  obtain ⟨Ta, fa⟩ := hk 0 (by simp) ka
  have kb : sq (noA b) (noA nn0) = true ∧ sq (noA c) (noA nn0) = false ∨ fpN h b = true := by
    have := f.kf 1 (by simp)
    unfold kfB at this
    by_cases hb : sq (noA b) (noA nn0) = true
    · rw [if_pos ⟨rfl, by omega, hb⟩] at this
      exact .inl ⟨hb, by simpa using this⟩
    · rw [if_neg (by rintro ⟨_, _, h⟩; exact hb h), if_neg (by rintro ⟨h, _⟩; revert h; decide)] at this
      exact .inr this
  have kc : sq (noA c) (noA nn0) = true ∨ fpN h c = true := by
    have := f.kf 2 (by simp)
    unfold kfB at this
    by_cases hb : sq (noA c) (noA nn0) = true
    · exact .inl hb
    · rw [if_neg (by rintro ⟨_, _, h⟩; exact hb h), if_neg (by rintro ⟨h, _⟩; revert h; decide)] at this
      exact .inr this
  have e : shT (h + 1) (.mk 8 at_ .empty vtN [] [a, b, c]) = pBs (shT h a) a ++ ([91] ++ (pEn (shT h b) b ++ ([58] ++ (pEn (shT h c) c ++ [93])))) := by rw [shT_up]; rfl
  unfold FulI
  rw [e]
  obtain ⟨T', d1, d2, d3, d4⟩ := dress_b fa
  have l91 := lx_one (c := 91) (by decide)
  have l93 := lx_one (c := 93) (by decide)
  have l58 := lx_one (c := 58) (by decide)
  have pen : ∀ k : NT, fpN h k = true → pEn (shT h k) k = shT h k := fun k hf => if_neg (fp_op hf).1
  rcases kb with ⟨nb, nc⟩ | kb
  · have kc : fpN h c = true := by
      rcases kc with h | h
      · rw [h] at nc; cases nc
      · exact h
    obtain ⟨Tc, fc⟩ := hk 2 (by simp) kc
    rw [show pEn (shT h b) b = [] from if_pos (none_kid nb).1, pen c kc]
    have g1 := fc.lx.app l93 fun _ _ => fs_cons (by decide)
    have g2 := l91.app ((lx_nil (G := An)).app (l58.app g1 fun _ _ => trivial) fun _ _ => trivial : Lx An ([] ++ ([58] ++ (shT h c ++ [93]))) ([] ++ ([(10, [58])] ++ (Tc ++ [(10, [93])])))) fun _ _ => trivial
    exact ⟨_, .base ((d1.app g2 fun _ _ => fs_cons (by decide)).any) (hd_app d3) (.term fun ws nbb => term_slice1 (d4 ws nbb) (fc.par.pi ws nbb) (none_kid nb).2)⟩
  · obtain ⟨Tb, fb⟩ := hk 1 (by simp) kb
    rw [pen b kb]
    rcases kc with kc | kc
    · rw [show pEn (shT h c) c = [] from if_pos (none_kid kc).1]
      have g1 := fb.lx.app (l58.app ((lx_nil (G := An)).app l93 fun _ _ => trivial : Lx An ([] ++ [93]) ([] ++ [(10, [93])])) fun _ _ => trivial) fun _ _ => fs_cons (by decide)
      exact ⟨_, .base ((d1.app (l91.app g1 fun _ _ => trivial) fun _ _ => fs_cons (by decide)).any) (hd_app d3) (.term fun ws nbb => term_slice2 (d4 ws nbb) (fb.par.pi ws nbb) (none_kid kc).2)⟩
    · obtain ⟨Tc, fc⟩ := hk 2 (by simp) kc
      rw [pen c kc]
      have g1 := fb.lx.app (l58.app (fc.lx.app l93 fun _ _ => fs_cons (by decide)) fun _ _ => trivial) fun _ _ => fs_cons (by decide)
      exact ⟨_, .base ((d1.app (l91.app g1 fun _ _ => trivial) fun _ _ => fs_cons (by decide)).any) (hd_app d3) (.term fun ws nbb => term_slice (d4 ws nbb) (fb.par.pi ws nbb) (fc.par.pi ws nbb))⟩
/-- a text with filters in it -/
def JnI (h : Nat) (k : NT) : Prop := ∃ (at_ at2 : Int) (x : ByteArray) (ks : List NT) (M : KL), k = .mk 3 at_ .empty vtN [] (.mk 2 at2 .empty (.mk 4 .empty x [] []) [] [] :: ks) ∧ (∀ ws nb, JnL ws nb M ks) ∧ Lx An (shT h k) ((7, x.data.toList) :: M) ∧ ∃ c u, shT h k = c :: u ∧ c ≠ 61
noncomputable def jnX (h : Nat) : List NT → List UInt8
  | f :: c :: r => shT h f ++ ([41] ++ (pPc c.value.text ++ (match r with
    | [] => [34]
    | _ :: _ => [92, 40] ++ jnX h r)))
  | _ => []
theorem jn_two (h : Nat) (f c : NT) : jnX h [f, c] = shT h f ++ ([41] ++ (pPc c.value.text ++ [34])) := rfl
theorem jn_more (h : Nat) (f c g : NT) (r : List NT) : jnX h (f :: c :: g :: r) = shT h f ++ ([41] ++ (pPc c.value.text ++ ([92, 40] ++ jnX h (g :: r)))) := by rw [jnX]
theorem jn_eq (h : Nat) : ∀ (m : Nat) (ks : List NT), ks.length = 2 * m + 2 → ((List.range ks.length).flatMap fun i => if i % 2 = 1 then pPc (ks.getD i nn0).value.text else [92, 40] ++ (shT h (ks.getD i nn0) ++ [41])) ++ [34] = [92, 40] ++ jnX h ks
  | 0, ks, hl => by
    obtain ⟨f, c, rfl⟩ := len2 (l := ks) hl
    rw [jn_two]
    simp [List.range_succ]
  | m + 1, ks, hl => by
    match ks, hl with
    | f :: c :: g :: r, hl =>
      have ih := jn_eq h m (g :: r) (by simp at hl ⊢; omega)
      rw [jn_more, ← ih, List.length_cons, List.length_cons, List.range_succ_eq_map, List.flatMap_cons, List.flatMap_map, List.range_succ_eq_map, List.flatMap_cons, List.flatMap_map]
      have e : ∀ i, (if (i + 1 + 1) % 2 = 1 then pPc ((f :: c :: g :: r).getD (i + 1 + 1) nn0).value.text else [92, 40] ++ (shT h ((f :: c :: g :: r).getD (i + 1 + 1) nn0) ++ [41])) = (if i % 2 = 1 then pPc ((g :: r).getD i nn0).value.text else [92, 40] ++ (shT h ((g :: r).getD i nn0) ++ [41])) := fun i => by
        have e1 : (f :: c :: g :: r).getD (i + 1 + 1) nn0 = (g :: r).getD i nn0 := rfl
        rw [e1, show (i + 1 + 1) % 2 = i % 2 by omega]
      simp only [Nat.succ_eq_add_one, e]
      simp
/-- the filters in a text, told -/
theorem jn_lx {h : Nat} : ∀ (m : Nat) (ks : List NT), ks.length = 2 * m + 2 → (∀ i, i < ks.length → i % 2 = 0 → FulI h (ks.getD i nn0)) → (∀ i, i < ks.length → i % 2 = 1 → ∃ at_ x, ks.getD i nn0 = .mk 2 at_ .empty (.mk 4 .empty x [] []) [] [] ∧ okB x.data.toList = true) →
    ∃ M, (∀ ws nb, JnL ws nb M ks) ∧ ∀ (l : List UInt8) (p : Nat) (op : List Nat) (r : List UInt8), l.drop p = jnX h ks ++ r → Sc l p (op ++ [0]) M (p + (jnX h ks).length) op
  | 0, ks, hl, hf, hc => by
    obtain ⟨f, c, rfl⟩ := len2 (l := ks) hl
    obtain ⟨T, F⟩ := hf 0 (by simp) rfl
    obtain ⟨at_, x, e, hx⟩ := hc 1 (by simp) rfl
    have e : c = .mk 2 at_ .empty (.mk 4 .empty x [] []) [] [] := e
    subst e
    refine ⟨_, fun ws nb => .last (F.par.pi ws nb), fun l p op r hd => ?_⟩
    rw [jn_two] at hd ⊢
    have hd1 : l.drop p = shT h f ++ (41 :: (qb (runes x.data.toList) ++ 34 :: r)) := by rw [hd]; simp [pPc, VT.text, NT.value]
    have hd2 : l.drop (p + (shT h f).length) = 41 :: (qb (runes x.data.toList) ++ 34 :: r) := by rw [← List.drop_drop, hd1, List.drop_left' rfl]
    have s1 := F.lx l p (op ++ [0]) _ hd1 (fs_cons (by decide))
    have s2 := sc_end2 (op := op) (runes_isR _) hd2
    rw [ok_runes hx] at s2
    have := s1.trans s2
    rw [show p + (shT h f ++ ([41] ++ (pPc (NT.mk 2 at_ .empty (.mk 4 .empty x [] []) [] []).value.text ++ [34])) : List UInt8).length = p + (shT h f).length + 1 + (qb (runes x.data.toList)).length + 1 by simp [pPc, VT.text, NT.value]; omega]
    exact this
  | m + 1, ks, hl, hf, hc => by
    match ks, hl, hf, hc with
    | f :: c :: g :: ks, hl, hf, hc =>
      obtain ⟨T, F⟩ := hf 0 (by simp) rfl
      obtain ⟨at_, x, e, hx⟩ := hc 1 (by simp) rfl
      have e : c = .mk 2 at_ .empty (.mk 4 .empty x [] []) [] [] := e
      subst e
      obtain ⟨M, h1, h2⟩ := jn_lx m (g :: ks) (by simp at hl ⊢; omega) (fun i hi h0 => hf (i + 1 + 1) (by simp at hi ⊢; omega) (by omega)) (fun i hi h0 => hc (i + 1 + 1) (by simp at hi ⊢; omega) (by omega))
      refine ⟨_, fun ws nb => .more (F.par.pi ws nb) (h1 ws nb), fun l p op r hd => ?_⟩
      rw [jn_more] at hd ⊢
      have hd1 : l.drop p = shT h f ++ (41 :: (qb (runes x.data.toList) ++ (92 :: 40 :: (jnX h (g :: ks) ++ r)))) := by rw [hd]; simp [pPc, VT.text, NT.value]
      have hd2 : l.drop (p + (shT h f).length) = 41 :: (qb (runes x.data.toList) ++ (92 :: 40 :: (jnX h (g :: ks) ++ r))) := by rw [← List.drop_drop, hd1, List.drop_left' rfl]
      have hd3 : l.drop (p + (shT h f).length + 1 + (qb (runes x.data.toList)).length + 2) = jnX h (g :: ks) ++ r := by
        rw [show p + (shT h f).length + 1 + (qb (runes x.data.toList)).length + 2 = p + (shT h f).length + (1 + ((qb (runes x.data.toList)).length + 2)) by omega, ← List.drop_drop, hd2, ← List.drop_drop, List.drop_succ_cons, List.drop_zero, ← List.drop_drop, List.drop_left' rfl]
        rfl
      have s1 := F.lx l p (op ++ [0]) _ hd1 (fs_cons (by decide))
      have s2 := sc_mid (op := op) (runes_isR _) hd2
      rw [ok_runes hx] at s2
      have := (s1.trans s2).trans (h2 l _ op r hd3)
      rw [List.append_assoc] at this
      rw [show p + (shT h f ++ ([41] ++ (pPc (NT.mk 2 at_ .empty (.mk 4 .empty x [] []) [] []).value.text ++ ([92, 40] ++ jnX h (g :: ks)))) : List UInt8).length = p + (shT h f).length + 1 + (qb (runes x.data.toList)).length + 2 + (jnX h (g :: ks)).length by simp [pPc, VT.text, NT.value]; omega]
      exact this
theorem jni_join {h : Nat} {at_ : Int} {tx : ByteArray} {V : VT} {ns : List ByteArray} {ks : List NT} (f : FpO h 3 tx V ns ks) (hk : KdI h ks) : JnI (h + 1) (.mk 3 at_ tx V ns ks) := by
  obtain rfl := f.txt rfl
  obtain rfl := f.nms (by decide)
  obtain rfl := f.val (by decide)
  obtain ⟨m, hm⟩ : ∃ m, ks.length = 2 * m + 3 := by
    have := f.mf
    simp [mfB] at this
    exact ⟨(ks.length - 3) / 2, by omega⟩
  have hc : ∀ i, i < ks.length → i % 2 = 0 → ∃ at_ x, ks.getD i nn0 = .mk 2 at_ .empty (.mk 4 .empty x [] []) [] [] ∧ okB x.data.toList = true := fun i hi h0 => by
    have h1 := f.kf i hi
    unfold kfB at h1
    rw [if_neg (by rintro ⟨h, _⟩; revert h; decide), if_pos ⟨rfl, h0⟩, Bool.and_eq_true, Bool.and_eq_true, decide_eq_true_iff, decide_eq_true_iff] at h1
    exact txt_shape h1.2 h1.1.1 h1.1.2
  match ks, hm, hc, hk with
  | c0 :: ks, hm, hc, hk =>
    obtain ⟨at2, x, e, hx⟩ := hc 0 (by simp) rfl
    have e : c0 = .mk 2 at2 .empty (.mk 4 .empty x [] []) [] [] := e
    subst e
    have hl : ks.length = 2 * m + 2 := by simp at hm; omega
    obtain ⟨M, h1, h2⟩ := jn_lx m ks hl (fun i hi h0 => (hk (ks.getD i nn0) (List.mem_cons_of_mem _ (by rw [getD_kid hi]; exact List.getElem_mem _))).2) (fun i hi h0 => hc (i + 1) (by simp; omega) (by omega))
    have e : shT (h + 1) (.mk 3 at_ .empty vtN [] (.mk 2 at2 .empty (.mk 4 .empty x [] []) [] [] :: ks)) = 34 :: (qb (runes x.data.toList) ++ (92 :: 40 :: jnX h ks)) := by
      rw [shT_up]
      show sJoin _ _ (ks.length + 1) = _
      unfold sJoin
      rw [List.range_succ_eq_map, List.flatMap_cons, List.flatMap_map, List.append_assoc]
      have e2 : ∀ i, (if Nat.succ i % 2 = 0 then pPc ((NT.mk 2 at2 .empty (.mk 4 .empty x [] []) [] [] :: ks).getD (Nat.succ i) nn0).value.text else [92, 40] ++ (shT h ((NT.mk 2 at2 .empty (.mk 4 .empty x [] []) [] [] :: ks).getD (Nat.succ i) nn0) ++ [41])) = (if i % 2 = 1 then pPc (ks.getD i nn0).value.text else [92, 40] ++ (shT h (ks.getD i nn0) ++ [41])) := fun i => by
        have e1 : (NT.mk 2 at2 .empty (.mk 4 .empty x [] []) [] [] :: ks).getD (Nat.succ i) nn0 = ks.getD i nn0 := rfl
        rw [e1]
        by_cases h0 : i % 2 = 1
        · rw [if_pos h0, if_pos (by omega)]
        · rw [if_neg h0, if_neg (by omega)]
      have e3 := jn_eq h m ks hl
      simp only [NT.kids, e2]
      rw [e3]
      rfl
    refine ⟨at_, at2, x, ks, M, rfl, h1, ?_, ?_⟩
    · rw [e]
      intro l p op r hd _
      have hd1 : l.drop p = 34 :: (qb (runes x.data.toList) ++ (92 :: 40 :: (jnX h ks ++ r))) := by rw [hd]; simp
      have hd2 : l.drop (p + 1 + (qb (runes x.data.toList)).length + 2) = jnX h ks ++ r := by
        rw [show p + 1 + (qb (runes x.data.toList)).length + 2 = p + (1 + ((qb (runes x.data.toList)).length + 2)) by omega, ← List.drop_drop, hd1, ← List.drop_drop, List.drop_succ_cons, List.drop_zero, ← List.drop_drop, List.drop_left' rfl]
        rfl
      have s1 := sc_begin (op := op) (runes_isR _) hd1
      rw [ok_runes hx] at s1
      have := s1.trans (h2 l _ op r hd2)
      rw [show p + (34 :: (qb (runes x.data.toList) ++ (92 :: 40 :: jnX h ks)) : List UInt8).length = p + 1 + (qb (runes x.data.toList)).length + 2 + (jnX h ks).length by simp; omega]
      exact this
    · rw [e]
      exact ⟨_, _, rfl, by decide⟩
theorem ful_join {h : Nat} {k : NT} (j : JnI h k) : FulI h k := by
  obtain ⟨at_, at2, x, ks, M, rfl, h1, h2, h3⟩ := j
  exact ⟨_, .base h2.any h3 (.term fun ws nb => term_join (h1 ws nb))⟩
end Go.Proofs.YtdjleoglphgdgaaGreatDoor
