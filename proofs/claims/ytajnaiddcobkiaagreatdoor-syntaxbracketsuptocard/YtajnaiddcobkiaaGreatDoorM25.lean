import Derived.Test.YtajnaiddcobkiaaGreatDoorM24
import Derived.Test.YtajnaiddcobkiaaGreatDoorM16
namespace Go.Proofs.YtajnaiddcobkiaaGreatDoor
open Go.RowKit Go.Shelf
set_option linter.unusedVariables false
abbrev PM (α : Type) := Nat → Nat → Pr α
def Pr.bd {α β : Type} (x : Pr α) (f : α → PM β) : Pr β := match x with
 | .ok a t o => f a t o
 | .bad e q => .bad e q
def pOk {α : Type} (a : α) : PM α := fun t o => .ok a t o
def pThen {α β : Type} (x : PM α) (f : α → PM β) : PM β := fun t o => (x t o).bd f
def lpP {α β : Type} (body : α → PM (α ⊕ β)) : Nat → α → PM β
 | 0, _ => fun _ _ => .bad 0 0
 | f + 1, a => pThen (body a) fun r => match r with
  | .inl a' => lpP body f a'
  | .inr b => pOk b
def vtN : VT := .mk 0 .empty .empty [] []
def ndP (op : Int) (at_ : Nat) (kids : List NT) : NT := .mk op (at_ : Int) .empty vtN [] kids
def txP (op : Int) (at_ : Nat) (text : List UInt8) (kids : List NT) : NT := .mk op (at_ : Int) ⟨text.toArray⟩ vtN [] kids
def cnP (at_ : Nat) (v : VT) : NT := .mk 2 (at_ : Int) .empty v [] []
def saidP (x : Tok) : NT := cnP x.at_ (.mk 4 .empty ⟨x.text.toArray⟩ [] [])
def idxP (at_ : Nat) (of key : NT) : NT := ndP 7 at_ [of, key]
def selfP (at_ : Nat) : NT := ndP 1 at_ []
def fldP (x : Tok) : NT := idxP x.at_ (selfP x.at_) (saidP x)
def varP (x : Tok) : NT := txP 6 x.at_ x.text []
def addK (A k : NT) : NT := .mk A.op A.at_ A.text A.value A.names (A.kids ++ [k])
def withinP (ws : List NT) (p : NT) : NT := ws.foldr addK p
section
variable (ws : List Tok) (nb : Nat)
def pFt {α : Type} : PM α := fun t _ => .bad (ftE ws t) (ftQ ws nb t)
def pTake : PM Tok := fun t o => .ok (hrP ws t) (t + 1) o
def isP (k : Nat) (t : Nat) : Bool := (hrP ws t).kind == k
def pMust (s : List UInt8) : PM Tok := fun t o => if syP ws t s then pTake ws t o else pFt ws nb t o
def pBe (k : Nat) : PM Tok := fun t o => if isP ws k t then pTake ws t o else pFt ws nb t o
def pOpen : PM Tok := fun t o => if o = 64 then .bad 172 (hrP ws t).at_ else .ok (hrP ws t) (t + 1) (o + 1)
def pEnter (s : List UInt8) : PM Tok := fun t o => if syP ws t s then pOpen ws t o else pFt ws nb t o
def pLeave (s : List UInt8) : PM Unit := pThen (pMust ws nb s) fun _ t o => .ok () t (o - 1)
def opTz : List (List UInt8 × Nat × Nat × Nat) := [([44], 13, 1, 0), ([61], 36, 2, 2), ([124, 61], 37, 2, 2), ([43, 61], 38, 2, 2), ([45, 61], 39, 2, 2), ([42, 61], 40, 2, 2), ([47, 61], 41, 2, 2), ([37, 61], 42, 2, 2), ([47, 47, 61], 43, 2, 2), ([47, 47], 27, 3, 1), ([111, 114], 26, 4, 0), ([97, 110, 100], 25, 5, 0), ([61, 61], 19, 6, 2), ([33, 61], 20, 6, 2), ([60], 21, 6, 2), ([60, 61], 22, 6, 2), ([62], 23, 6, 2), ([62, 61], 24, 6, 2), ([43], 14, 7, 0), ([45], 15, 7, 0), ([42], 16, 8, 0), ([47], 17, 8, 0), ([37], 18, 8, 0)]
def opZ (t : Nat) : List UInt8 × Nat × Nat × Nat := let x := hrP ws t; if x.kind = 10 ∨ x.kind = 2 then (opTz.find? (fun r => r.1 == x.text)).getD ([], 0, 0, 0) else ([], 0, 0, 0)
section
variable (P : PM NT) (O : Nat → PM NT)
def groupP : PM NT := pThen (pEnter ws nb [40]) fun _ => pThen P fun n => pThen (pLeave ws nb [41]) fun _ => pOk n
def listP : PM NT := pThen (pEnter ws nb [91]) fun x => pThen (fun t o => if syP ws t [93] then .ok [] t o else pThen P (fun n => pOk [n]) t o) fun ks => pThen (pLeave ws nb [93]) fun _ => pOk (ndP 4 x.at_ ks)
def textP : PM NT := fun t o => if isP ws 6 t then pThen (pTake ws) (fun x => pOk (saidP x)) t o else if isP ws 7 t then
 pThen (pOpen ws) (fun x0 => pThen (lpP (fun (a : List NT × Tok) => pThen P fun n t o => if isP ws 8 t then .ok (.inl (a.1 ++ [saidP a.2, n], hrP ws t)) (t + 1) o else .ok (.inr (a.1 ++ [saidP a.2, n])) t o) (ws.length + 1) ([], x0)) fun ks =>
  pThen (pBe ws nb 9) fun x t o => .ok (ndP 3 x0.at_ (ks ++ [saidP x])) t (o - 1)) t o
 else pFt ws nb t o
def pipesP (ks : List NT) (least most : Nat) : PM (List NT) := pThen (pEnter ws nb [40]) fun _ => pThen P fun n => pThen (lpP (fun (a : Nat × List NT) t o => if a.1 < most then (if least ≤ a.1 ∧ syP ws t [59] = false then .ok (.inr a.2) t o else pThen (pMust ws nb [59]) (fun _ => pThen P fun k => pOk (.inl (a.1 + 1, a.2 ++ [k]))) t o) else .ok (.inr a.2) t o) (ws.length + 1) (1, ks ++ [n])) fun ks => pThen (pLeave ws nb [41]) fun _ => pOk ks
def branchP (at_ : Nat) : PM NT := pThen P fun c => pThen (pMust ws nb [116, 104, 101, 110]) fun _ => pThen P fun n => pOk (ndP 28 at_ [c, n])
def choiceP : PM NT := pThen (pEnter ws nb [105, 102]) fun x => pThen (branchP ws nb P x.at_) fun b => pThen (lpP (fun (a : List NT) t o => if syP ws t [101, 108, 105, 102] then pThen (pTake ws) (fun y => pThen (branchP ws nb P y.at_) fun b => pOk (.inl (a ++ [b]))) t o else .ok (.inr a) t o) (ws.length + 1) [b]) fun bs =>
 pThen (fun t o => if syP ws t [101, 108, 115, 101] then pThen (pTake ws) (fun _ => P) t o else .ok (selfP (hrP ws t).at_) t o) fun n => pThen (pLeave ws nb [101, 110, 100]) fun _ => pOk (withinP bs n)
def entryP (ks : List NT) : PM (List NT) := fun t o => let x := hrP ws t
 if x.kind = 1 ∨ x.kind = 2 ∨ x.kind = 6 ∨ x.kind = 3 then
  (if syP ws (t + 1) [58] then pThen (pMust ws nb [58]) (fun _ => pThen (O 3) fun n => pOk (ks ++ [saidP x, n])) (t + 1) o else .ok (ks ++ [saidP x, if x.kind = 3 then varP x else fldP x]) (t + 1) o)
 else pThen (if x.kind = 7 then textP ws nb P else groupP ws nb P) (fun k => pThen (pMust ws nb [58]) fun _ => pThen (O 3) fun n => pOk (ks ++ [k, n])) t o
def recordP : PM NT := pThen (pEnter ws nb [123]) fun x => pThen (fun t o => if syP ws t [125] then .ok [] t o else pThen (entryP ws nb P O []) (fun ks => lpP (fun (a : List NT) t o => if syP ws t [44] then pThen (pTake ws) (fun _ => pThen (entryP ws nb P O a) fun b => pOk (.inl b)) t o else .ok (.inr a) t o) (ws.length + 1) ks) t o) fun ks => pThen (pLeave ws nb [125]) fun _ => pOk (ndP 5 x.at_ ks)
def callP : PM NT := pThen (pTake ws) fun x t o => if syP ws t [40] then pThen (pipesP ws nb P [] 1 9223372036854775807) (fun ks => pOk (txP 33 x.at_ x.text ks)) t o else .ok (txP 33 x.at_ x.text []) t o
def termP : PM NT := fun t o => let x := hrP ws t
 if x.kind = 10 then
  (if x.text = [46] then pThen (pTake ws) (fun _ t o => if isP ws 6 t || isP ws 7 t then pThen (textP ws nb P) (fun k => pOk (idxP x.at_ (selfP x.at_) k)) t o else .ok (selfP x.at_) t o) t o
   else if x.text = [46, 46] then .ok (txP 33 x.at_ [114, 101, 99, 117, 114, 115, 101] []) (t + 1) o
   else if x.text = [40] then groupP ws nb P t o else if x.text = [91] then listP ws nb P t o else if x.text = [123] then recordP ws nb P O t o else pFt ws nb t o)
 else if x.kind = 2 then
  (if x.text = [110, 117, 108, 108] then .ok (cnP x.at_ vtN) (t + 1) o else if x.text = [116, 114, 117, 101] then .ok (cnP x.at_ (.mk 2 .empty .empty [] [])) (t + 1) o
   else if x.text = [102, 97, 108, 115, 101] then .ok (cnP x.at_ (.mk 1 .empty .empty [] [])) (t + 1) o else if x.text = [105, 102] then choiceP ws nb P t o
   else if x.text = [98, 114, 101, 97, 107] then pThen (pTake ws) (fun _ => pThen (pBe ws nb 3) fun y => pOk (txP 35 x.at_ y.text [])) t o else pFt ws nb t o)
 else if x.kind = 4 then .ok (fldP x) (t + 1) o
 else if x.kind = 5 then .ok (cnP x.at_ (.mk 3 ⟨x.text.toArray⟩ .empty [] [])) (t + 1) o
 else if x.kind = 6 ∨ x.kind = 7 then textP ws nb P t o
 else if x.kind = 3 then .ok (varP x) (t + 1) o
 else if x.kind = 1 then callP ws nb P t o
 else pFt ws nb t o
def bracketP (of : NT) : PM NT := pThen (pEnter ws nb [91]) fun x t o =>
 if syP ws t [93] then pThen (pLeave ws nb [93]) (fun _ => pOk (ndP 9 x.at_ [of])) t o
 else if syP ws t [58] then pThen (pTake ws) (fun _ => pThen P fun n => pThen (pLeave ws nb [93]) fun _ => pOk (ndP 8 x.at_ [of, ndP 0 0 [], n])) t o
 else pThen P (fun m t o => if syP ws t [93] then pThen (pLeave ws nb [93]) (fun _ => pOk (idxP x.at_ of m)) t o
  else pThen (pMust ws nb [58]) (fun _ t o => if syP ws t [93] then pThen (pLeave ws nb [93]) (fun _ => pOk (ndP 8 x.at_ [of, m, ndP 0 0 []])) t o else pThen P (fun n => pThen (pLeave ws nb [93]) fun _ => pOk (ndP 8 x.at_ [of, m, n])) t o) t o) t o
def suffixedP : NT → PM NT := lpP (fun (a : NT) t o =>
 if isP ws 4 t then .ok (.inl (idxP (hrP ws t).at_ a (saidP (hrP ws t)))) (t + 1) o
 else if syP ws t [46] then pThen (pTake ws) (fun x => pThen (textP ws nb P) fun k => pOk (.inl (idxP x.at_ a k))) t o
 else if syP ws t [91] then pThen (bracketP ws nb P a) (fun n => pOk (.inl n)) t o
 else if syP ws t [63] then .ok (.inl (ndP 10 (hrP ws t).at_ [a])) (t + 1) o
 else .ok (.inr a) t o) (ws.length + 1)
def awaitP (t : Nat) : Option NT := let x := hrP ws t
 if syP ws t [116, 114, 121] then some (ndP 10 x.at_ []) else if syP ws t [114, 101, 100, 117, 99, 101] then some (ndP 30 x.at_ []) else if syP ws t [102, 111, 114, 101, 97, 99, 104] then some (ndP 31 x.at_ []) else none
def finishedP (A : NT) : PM NT := if A.op = 30 ∨ A.op = 31 then pThen (pMust ws nb [97, 115]) fun _ => pThen (pBe ws nb 3) fun x => pThen (pipesP ws nb P A.kids 2 (if A.op = 30 then 2 else 3)) fun ks => pOk (.mk A.op A.at_ ⟨x.text.toArray⟩ A.value A.names ks) else pOk A
def unwindP : List NT → NT → PM (List NT ⊕ NT)
 | [], out => pOk (.inr out)
 | last :: rest, out => let A := addK last out
   fun t o => if A.op = 10 ∧ A.kids.length = 1 ∧ syP ws t [99, 97, 116, 99, 104] = true then .ok (.inl (A :: rest)) (t + 1) o
    else pThen (finishedP ws nb P A) (fun B => pThen (suffixedP ws nb P B) fun C => unwindP rest C) t o
def postP : PM NT := lpP (fun (a : List NT) => pThen (lpP (fun (b : List NT) t o => match awaitP ws t with
 | some A => .ok (.inl (A :: b)) (t + 1) o
 | none => .ok (.inr b) t o) (ws.length + 1) a) fun b => pThen (termP ws nb P O) fun n => pThen (suffixedP ws nb P n) fun m => unwindP ws nb P b m) (ws.length + 1) []
def unaryP : PM NT := pThen (lpP (fun (a : List NT) t o => if syP ws t [45] then .ok (.inl (a ++ [ndP 11 (hrP ws t).at_ []])) (t + 1) o else .ok (.inr a) t o) (ws.length + 1) []) fun ss => pThen (postP ws nb P O) fun n => pOk (withinP ss n)
def behindP (least : Nat) (left : NT) : PM NT := lpP (fun (a : List NT × NT × Nat) t o => let r := opZ ws t
    if r.2.2.1 < least ∨ a.2.2 < r.2.2.1 then .ok (.inr (withinP a.1 a.2.1)) t o
    else pThen (O (r.2.2.1 + 1)) (fun n => if r.2.2.2 = 1 then pOk (.inl (a.1 ++ [ndP r.2.1 (hrP ws t).at_ [a.2.1]], n, r.2.2.1)) else pOk (.inl ([], ndP r.2.1 (hrP ws t).at_ [withinP a.1 a.2.1, n], if r.2.2.2 = 2 then r.2.2.1 - 1 else r.2.2.1))) (t + 1) o) (ws.length + 1) ([], left, 8)
def operandP (least : Nat) : PM NT := pThen (unaryP ws nb P O) fun n => behindP ws O least n
def paramP : PM ByteArray := fun t o => if isP ws 3 t then .ok ⟨(36 :: (hrP ws t).text).toArray⟩ (t + 1) o else pThen (pBe ws nb 1) (fun x => pOk ⟨x.text.toArray⟩) t o
def paramsP : PM (List ByteArray) := fun t o => if syP ws t [40] then pThen (pEnter ws nb [40]) (fun _ => pThen (paramP ws nb) fun a => pThen (lpP (fun (l : List ByteArray) t o => if syP ws t [59] then pThen (pTake ws) (fun _ => pThen (paramP ws nb) fun b => pOk (.inl (l ++ [b]))) t o else .ok (.inr l) t o) (ws.length + 1) [a]) fun l => pThen (pLeave ws nb [41]) fun _ => pOk l) t o else .ok [] t o
def linkP : PM (NT × Bool) := fun t o =>
 if syP ws t [100, 101, 102] then pThen (pEnter ws nb [100, 101, 102]) (fun x => pThen (pBe ws nb 1) fun y => pThen (paramsP ws nb) fun l => pThen (pMust ws nb [58]) fun _ => pThen P fun n => pThen (pLeave ws nb [59]) fun _ => pOk (.mk 32 (x.at_ : Int) ⟨y.text.toArray⟩ vtN l [n], true)) t o
 else if syP ws t [108, 97, 98, 101, 108] then pThen (pTake ws) (fun x => pThen (pBe ws nb 3) fun y => pThen (pMust ws nb [124]) fun _ => pOk (txP 34 x.at_ y.text [], true)) t o
 else pThen (unaryP ws nb P O) (fun n t1 o1 => if syP ws t [45] = false ∧ syP ws t1 [97, 115] = true then pThen (pTake ws) (fun x => pThen (pBe ws nb 3) fun y => pThen (pMust ws nb [124]) fun _ => pOk (txP 29 x.at_ y.text [n], true)) t1 o1
  else pThen (behindP ws O 1 n) (fun m t2 o2 => if syP ws t2 [124] then .ok (ndP 12 (hrP ws t2).at_ [m], true) (t2 + 1) o2 else .ok (m, false) t2 o2) t1 o1) t o
def pipeP : PM NT := lpP (fun (a : List NT) => pThen (linkP ws nb P O) fun r => if r.2 then pOk (.inl (a ++ [r.1])) else pOk (.inr (withinP a r.1))) (ws.length + 1) []
end
def poP : Nat → PM NT × (Nat → PM NT)
 | 0 => (fun _ _ => .bad 0 0, fun _ _ _ => .bad 0 0)
 | n + 1 => (pipeP ws nb (poP n).1 (poP n).2, operandP ws nb (poP n).1 (poP n).2)
def wholeP : Pr NT := pThen (poP ws nb (ws.length + 1)).1 (fun n t o => if t < ws.length then pFt ws nb t o else .ok n t o) 0 0
end
end Go.Proofs.YtajnaiddcobkiaaGreatDoor
namespace Go.Proofs.YtajnaiddcobkiaaGreatDoor
open Go.RowKit Go.Shelf
set_option linter.unusedVariables false
set_option linter.unusedSimpArgs false
def MvA {α : Type} (L k : Nat) (x : PM α) (t : Nat) : Prop := ∀ o a t' o', x t o = .ok a t' o' → t + k ≤ t' ∧ t' ≤ L
def Mv {α : Type} (L k : Nat) (x : PM α) : Prop := ∀ t, t ≤ L → MvA L k x t
theorem mv_ok {α : Type} {L : Nat} (a : α) : Mv L 0 (pOk a) := fun t ht o b t' o' h => by
 injection h with h1 h2 h3
 omega
theorem mv_weak {α : Type} {L i j : Nat} {x : PM α} (h : Mv L i x) (hj : j ≤ i) : Mv L j x := fun t ht o a t' o' e => by
 have := h t ht o a t' o' e
 omega
theorem mva_then {α β : Type} {L i j k t : Nat} {x : PM α} {f : α → PM β} (hx : MvA L i x t) (hf : ∀ a, Mv L j (f a)) (hk : k ≤ i + j) : MvA L k (pThen x f) t := fun o b t' o' e => by
 unfold pThen at e
 cases hxx : x t o with
 | bad e1 q => rw [hxx] at e; cases e
 | ok a t1 o1 =>
  rw [hxx] at e
  have h1 := hx o a t1 o1 hxx
  have h2 := hf a t1 h1.2 o1 b t' o' e
  omega
theorem mv_then {α β : Type} {L i j k : Nat} {x : PM α} {f : α → PM β} (hx : Mv L i x) (hf : ∀ a, Mv L j (f a)) (hk : k ≤ i + j) : Mv L k (pThen x f) := fun t ht => mva_then (hx t ht) hf hk
theorem mv_loop {α β : Type} {L : Nat} {body : α → PM (α ⊕ β)} (hb : ∀ a t o r t' o', t ≤ L → body a t o = .ok r t' o' → t ≤ t' ∧ t' ≤ L) : ∀ (f : Nat) (a : α), Mv L 0 (lpP body f a)
 | 0, a => fun t ht o b t' o' e => by cases e
 | f + 1, a => fun t ht o b t' o' e => by
  unfold lpP pThen at e
  cases hxx : body a t o with
  | bad e1 q => rw [hxx] at e; cases e
  | ok r t1 o1 =>
   rw [hxx] at e
   have h1 := hb a t o r t1 o1 ht hxx
   cases r with
   | inl a' =>
    have h2 := mv_loop hb f a' t1 h1.2 o1 b t' o' e
    omega
   | inr b' =>
    injection e with e1 e2 e3
    omega
section
variable {ws : List Tok} {nb : Nat}
theorem hr_none {t : Nat} (h : ws.length ≤ t) : hrP ws t = ⟨0, 0, 0, [], 0⟩ := by
 unfold hrP
 rw [List.getD_eq_getElem?_getD, List.getElem?_eq_none h]
 rfl
theorem sy_lt {t : Nat} {s : List UInt8} (h : syP ws t s = true) : t < ws.length := by
 by_cases hl : t < ws.length
 · exact hl
 · unfold syP at h
   rw [hr_none (by omega)] at h
   simp at h
theorem is_lt {t k : Nat} (hk : k ≠ 0) (h : isP ws k t = true) : t < ws.length := by
 by_cases hl : t < ws.length
 · exact hl
 · unfold isP at h
   rw [hr_none (by omega)] at h
   simp at h
   omega
theorem mv_must (s : List UInt8) : Mv ws.length 1 (pMust ws nb s) := fun t ht o a t' o' e => by
 unfold pMust at e
 by_cases h : syP ws t s = true
 · rw [if_pos h] at e
   have := sy_lt h
   injection e with e1 e2 e3
   omega
 · rw [if_neg h] at e
   cases e
theorem mv_be {k : Nat} (hk : k ≠ 0) : Mv ws.length 1 (pBe ws nb k) := fun t ht o a t' o' e => by
 unfold pBe at e
 by_cases h : isP ws k t = true
 · rw [if_pos h] at e
   have := is_lt hk h
   injection e with e1 e2 e3
   omega
 · rw [if_neg h] at e
   cases e
theorem mva_open {t : Nat} (hl : t < ws.length) : MvA ws.length 1 (pOpen ws) t := fun o a t' o' e => by
 unfold pOpen at e
 by_cases h : o = 64
 · rw [if_pos h] at e; cases e
 · rw [if_neg h] at e
   injection e with e1 e2 e3
   omega
theorem mv_enter (s : List UInt8) : Mv ws.length 1 (pEnter ws nb s) := fun t ht o a t' o' e => by
 unfold pEnter at e
 by_cases h : syP ws t s = true
 · rw [if_pos h] at e
   exact mva_open (sy_lt h) o a t' o' e
 · rw [if_neg h] at e
   cases e
theorem mv_leave (s : List UInt8) : Mv ws.length 1 (pLeave ws nb s) := mv_then (mv_must s) (j := 0) (fun a t ht o b t' o' e => by
 injection e with e1 e2 e3
 omega) (by omega)
theorem mva_take {t : Nat} (hl : t < ws.length) : MvA ws.length 1 (pTake ws) t := fun o a t' o' e => by
 injection e with e1 e2 e3
 omega
variable {P : PM NT} {O : Nat → PM NT}
theorem mv_group (hP : Mv ws.length 0 P) : Mv ws.length 1 (groupP ws nb P) :=
 mv_then (mv_enter _) (j := 0) (fun _ => mv_then hP (j := 0) (fun n => mv_then (mv_leave _) (j := 0) (fun _ => mv_ok n) (by omega)) (by omega)) (by omega)
theorem mv_list (hP : Mv ws.length 0 P) : Mv ws.length 1 (listP ws nb P) :=
 mv_then (mv_enter _) (j := 0) (fun x => mv_then (i := 0) (j := 0) (fun t ht o a t' o' e => by
  by_cases h : syP ws t [93] = true
  · simp only [if_pos h] at e
    injection e with e1 e2 e3
    omega
  · simp only [if_neg h] at e
    exact mv_then hP (j := 0) (k := 0) (fun n => mv_ok [n]) (by omega) t ht o a t' o' e) (fun ks => mv_then (mv_leave _) (j := 0) (fun _ => mv_ok _) (by omega)) (by omega)) (by omega)
end
section
variable {ws : List Tok} {nb : Nat} {P : PM NT} {O : Nat → PM NT}
theorem mv_here {α : Type} {L t k n : Nat} {o1 o' : Nat} {a b : α} {t' : Nat} (e : (.ok a n o1 : Pr α) = .ok b t' o') (h1 : t + k ≤ n) (h2 : n ≤ L) : t + k ≤ t' ∧ t' ≤ L := by
 injection e with e1 e2 e3
 omega
theorem mv_text (hP : Mv ws.length 0 P) : Mv ws.length 1 (textP ws nb P) := fun t ht o a t' o' e => by
 unfold textP at e
 by_cases h6 : isP ws 6 t = true
 · rw [if_pos h6] at e
   exact mva_then (mva_take (is_lt (by decide) h6)) (j := 0) (fun x => mv_ok _) (by omega) o a t' o' e
 · rw [if_neg h6] at e
   by_cases h7 : isP ws 7 t = true
   · rw [if_pos h7] at e
     refine mva_then (mva_open (is_lt (by decide) h7)) (j := 0) (fun x0 => mv_then (i := 0) (j := 0) (mv_loop (fun a t o r t' o' ht e => ?_) _ _) (fun ks => mv_weak (i := 1) (mv_then (mv_be (by decide)) (j := 0) (fun x t ht o a t' o' e => mv_here e (by omega) ht) (by omega)) (by omega)) (by omega)) (by omega) o a t' o' e
     refine mv_then hP (j := 0) (k := 0) (fun n t ht o r t' o' e => ?_) (by omega) t ht o r t' o' e
     by_cases h8 : isP ws 8 t = true
     · simp only [if_pos h8] at e
       exact mv_here e (by omega) (is_lt (by decide) h8)
     · simp only [if_neg h8] at e
       exact mv_here e (by omega) ht
   · rw [if_neg h7] at e
     cases e
theorem mv_pipes (hP : Mv ws.length 0 P) (ks : List NT) (least most : Nat) : Mv ws.length 1 (pipesP ws nb P ks least most) :=
 mv_then (mv_enter _) (j := 0) (fun _ => mv_then hP (j := 0) (fun n => mv_then (i := 0) (j := 0) (mv_loop (fun a t o r t' o' ht e => by
  by_cases h1 : a.1 < most
  · simp only [if_pos h1] at e
    by_cases h2 : least ≤ a.1 ∧ syP ws t [59] = false
    · simp only [if_pos h2] at e
      exact mv_here e (k := 0) (by omega) ht
    · simp only [if_neg h2] at e
      exact mv_weak (mv_then (mv_must _) (j := 0) (k := 1) (fun _ => mv_then hP (j := 0) (k := 0) (fun k => mv_ok _) (by omega)) (by omega)) (j := 0) (by omega) t ht o r t' o' e
  · simp only [if_neg h1] at e
    exact mv_here e (k := 0) (by omega) ht) _ _) (fun ks => mv_weak (mv_then (mv_leave _) (j := 0) (k := 1) (fun _ => mv_ok _) (by omega)) (by omega)) (by omega)) (by omega)) (by omega)
theorem mv_branch (hP : Mv ws.length 0 P) (at_ : Nat) : Mv ws.length 0 (branchP ws nb P at_) :=
 mv_then hP (j := 0) (fun c => mv_then (mv_must _) (j := 0) (fun _ => mv_then hP (j := 0) (fun n => mv_ok _) (by omega)) (by omega)) (by omega)
theorem mv_choice (hP : Mv ws.length 0 P) : Mv ws.length 1 (choiceP ws nb P) :=
 mv_then (mv_enter _) (j := 0) (fun x => mv_then (mv_branch hP _) (j := 0) (fun b => mv_then (i := 0) (j := 0) (mv_loop (fun a t o r t' o' ht e => by
  by_cases h : syP ws t [101, 108, 105, 102] = true
  · simp only [if_pos h] at e
    have := mva_then (mva_take (sy_lt h)) (j := 0) (k := 1) (fun y => mv_then (mv_branch hP _) (j := 0) (k := 0) (fun b => mv_ok _) (by omega)) (by omega) o r t' o' e
    omega
  · simp only [if_neg h] at e
    exact mv_here e (k := 0) (by omega) ht) _ _) (fun bs => mv_then (i := 0) (j := 0) (fun t ht o a t' o' e => by
  by_cases h : syP ws t [101, 108, 115, 101] = true
  · simp only [if_pos h] at e
    have := mva_then (mva_take (sy_lt h)) (j := 0) (k := 1) (fun _ => hP) (by omega) o a t' o' e
    omega
  · simp only [if_neg h] at e
    exact mv_here e (by omega) ht) (fun n => mv_weak (mv_then (mv_leave _) (j := 0) (k := 1) (fun _ => mv_ok _) (by omega)) (by omega)) (by omega)) (by omega)) (by omega)) (by omega)
theorem kind_lt {t : Nat} (h : (hrP ws t).kind ≠ 0) : t < ws.length := by
 by_cases hl : t < ws.length
 · exact hl
 · rw [hr_none (by omega)] at h
   exact absurd rfl h
theorem mv_entry (hP : Mv ws.length 0 P) (hO : ∀ l, 1 ≤ l → Mv ws.length 0 (O l)) (ks : List NT) : Mv ws.length 1 (entryP ws nb P O ks) := fun t ht o a t' o' e => by
 unfold entryP at e
 simp only at e
 by_cases h : (hrP ws t).kind = 1 ∨ (hrP ws t).kind = 2 ∨ (hrP ws t).kind = 6 ∨ (hrP ws t).kind = 3
 · rw [if_pos h] at e
   have hl := kind_lt (ws := ws) (t := t) (by omega)
   by_cases h2 : syP ws (t + 1) [58] = true
   · rw [if_pos h2] at e
     have := mv_then (mv_must [58]) (j := 0) (k := 1) (fun _ => mv_then (hO 3 (by omega)) (j := 0) (k := 0) (fun n => mv_ok _) (by omega)) (by omega) (t + 1) (by omega) o a t' o' e
     omega
   · rw [if_neg h2] at e
     exact mv_here e (by omega) (by omega)
 · rw [if_neg h] at e
   refine mva_then (i := 1) (j := 0) ?_ (fun k => mv_weak (mv_then (mv_must _) (j := 0) (k := 1) (fun _ => mv_then (hO 3 (by omega)) (j := 0) (k := 0) (fun n => mv_ok _) (by omega)) (by omega)) (by omega)) (by omega) o a t' o' e
   by_cases h7 : (hrP ws t).kind = 7
   · rw [if_pos h7]; exact mv_text hP t ht
   · rw [if_neg h7]; exact mv_group hP t ht
theorem mv_record (hP : Mv ws.length 0 P) (hO : ∀ l, 1 ≤ l → Mv ws.length 0 (O l)) : Mv ws.length 1 (recordP ws nb P O) :=
 mv_then (mv_enter _) (j := 0) (fun x => mv_then (i := 0) (j := 0) (fun t ht o a t' o' e => by
  by_cases h : syP ws t [125] = true
  · simp only [if_pos h] at e
    exact mv_here e (by omega) ht
  · simp only [if_neg h] at e
    have := mv_then (mv_entry hP hO []) (j := 0) (k := 1) (fun ks => mv_loop (fun a t o r t' o' ht e => by
     by_cases h : syP ws t [44] = true
     · simp only [if_pos h] at e
       have := mva_then (mva_take (sy_lt h)) (j := 0) (k := 1) (fun _ => mv_weak (mv_then (mv_entry hP hO a) (j := 0) (k := 1) (fun b => mv_ok _) (by omega)) (by omega)) (by omega) o r t' o' e
       omega
     · simp only [if_neg h] at e
       exact mv_here e (k := 0) (by omega) ht) _ _) (by omega) t ht o a t' o' e
    omega) (fun ks => mv_weak (mv_then (mv_leave _) (j := 0) (k := 1) (fun _ => mv_ok _) (by omega)) (by omega)) (by omega)) (by omega)
theorem mva_call (hP : Mv ws.length 0 P) {t : Nat} (hl : t < ws.length) : MvA ws.length 1 (callP ws nb P) t :=
 mva_then (mva_take hl) (j := 0) (fun x t ht o a t' o' e => by
  by_cases h : syP ws t [40] = true
  · simp only [if_pos h] at e
    have := mv_then (mv_pipes hP [] 1 9223372036854775807) (j := 0) (k := 1) (fun ks => mv_ok _) (by omega) t ht o a t' o' e
    omega
  · simp only [if_neg h] at e
    exact mv_here e (by omega) ht) (by omega)
theorem mv_term (hP : Mv ws.length 0 P) (hO : ∀ l, 1 ≤ l → Mv ws.length 0 (O l)) : Mv ws.length 1 (termP ws nb P O) := fun t ht o a t' o' e => by
 unfold termP at e
 simp only at e
 split at e
 · have hl := kind_lt (ws := ws) (t := t) (by omega)
   split at e
   · refine mva_then (mva_take hl) (j := 0) (fun x t ht o a t' o' e => ?_) (by omega) o a t' o' e
     split at e
     · have := mv_then (mv_text hP) (j := 0) (k := 1) (fun k => mv_ok _) (by omega) t ht o a t' o' e
       omega
     · exact mv_here e (by omega) ht
   · split at e
     · exact mv_here e (by omega) (by omega)
     · split at e
       · exact mv_group hP t ht o a t' o' e
       · split at e
         · exact mv_list hP t ht o a t' o' e
         · split at e
           · exact mv_record hP hO t ht o a t' o' e
           · cases e
 · split at e
   · have hl := kind_lt (ws := ws) (t := t) (by omega)
     split at e
     · exact mv_here e (by omega) (by omega)
     · split at e
       · exact mv_here e (by omega) (by omega)
       · split at e
         · exact mv_here e (by omega) (by omega)
         · split at e
           · exact mv_choice hP t ht o a t' o' e
           · split at e
             · exact mva_then (mva_take hl) (j := 0) (fun _ => mv_weak (mv_then (mv_be (by decide)) (j := 0) (k := 1) (fun y => mv_ok _) (by omega)) (by omega)) (by omega) o a t' o' e
             · cases e
   · split at e
     · exact mv_here e (by omega) (kind_lt (ws := ws) (t := t) (by omega))
     · split at e
       · exact mv_here e (by omega) (kind_lt (ws := ws) (t := t) (by omega))
       · split at e
         · exact mv_text hP t ht o a t' o' e
         · split at e
           · exact mv_here e (by omega) (kind_lt (ws := ws) (t := t) (by omega))
           · split at e
             · exact mva_call hP (kind_lt (ws := ws) (t := t) (by omega)) o a t' o' e
             · cases e
end
section
variable {ws : List Tok} {nb : Nat} {P : PM NT} {O : Nat → PM NT}
theorem mv_leaves {α : Type} (s : List UInt8) (a : α) : Mv ws.length 0 (pThen (pLeave ws nb s) fun _ => pOk a) := mv_weak (mv_then (mv_leave _) (j := 0) (k := 1) (fun _ => mv_ok _) (by omega)) (by omega)
theorem mv_bracket (hP : Mv ws.length 0 P) (of : NT) : Mv ws.length 1 (bracketP ws nb P of) :=
 mv_then (mv_enter _) (j := 0) (fun x t ht o a t' o' e => by
  by_cases h1 : syP ws t [93] = true
  · simp only [if_pos h1] at e
    exact mv_leaves _ _ t ht o a t' o' e
  · simp only [if_neg h1] at e
    by_cases h2 : syP ws t [58] = true
    · simp only [if_pos h2] at e
      have := mva_then (mva_take (sy_lt h2)) (j := 0) (k := 1) (fun _ => mv_then hP (j := 0) (k := 0) (fun n => mv_leaves _ _) (by omega)) (by omega) o a t' o' e
      omega
    · simp only [if_neg h2] at e
      refine mv_then hP (j := 0) (k := 0) (fun m t ht o a t' o' e => ?_) (by omega) t ht o a t' o' e
      by_cases h3 : syP ws t [93] = true
      · simp only [if_pos h3] at e
        exact mv_leaves _ _ t ht o a t' o' e
      · simp only [if_neg h3] at e
        have := mv_then (mv_must _) (j := 0) (k := 1) (fun _ t ht o a t' o' e => by
         by_cases h4 : syP ws t [93] = true
         · simp only [if_pos h4] at e
           exact mv_leaves _ _ t ht o a t' o' e
         · simp only [if_neg h4] at e
           exact mv_then hP (j := 0) (k := 0) (fun n => mv_leaves _ _) (by omega) t ht o a t' o' e) (by omega) t ht o a t' o' e
        omega) (by omega)
theorem mv_suffixed (hP : Mv ws.length 0 P) (a : NT) : Mv ws.length 0 (suffixedP ws nb P a) := mv_loop (fun a t o r t' o' ht e => by
 by_cases h1 : isP ws 4 t = true
 · simp only [if_pos h1] at e
   exact mv_here e (k := 0) (by omega) (is_lt (by decide) h1)
 · simp only [if_neg h1] at e
   by_cases h2 : syP ws t [46] = true
   · simp only [if_pos h2] at e
     have := mva_then (mva_take (sy_lt h2)) (j := 0) (k := 1) (fun x => mv_weak (mv_then (mv_text hP) (j := 0) (k := 1) (fun k => mv_ok _) (by omega)) (by omega)) (by omega) o r t' o' e
     omega
   · simp only [if_neg h2] at e
     by_cases h3 : syP ws t [91] = true
     · simp only [if_pos h3] at e
       have := mv_then (mv_bracket hP a) (j := 0) (k := 1) (fun n => mv_ok _) (by omega) t ht o r t' o' e
       omega
     · simp only [if_neg h3] at e
       by_cases h4 : syP ws t [63] = true
       · simp only [if_pos h4] at e
         exact mv_here e (k := 0) (by omega) (sy_lt h4)
       · simp only [if_neg h4] at e
         exact mv_here e (k := 0) (by omega) ht) _ _
theorem mv_finished (hP : Mv ws.length 0 P) (A : NT) : Mv ws.length 0 (finishedP ws nb P A) := by
 unfold finishedP
 split
 · exact mv_weak (mv_then (mv_must _) (j := 0) (k := 1) (fun _ => mv_weak (mv_then (mv_be (by decide)) (j := 0) (k := 1) (fun x => mv_weak (mv_then (mv_pipes hP _ _ _) (j := 0) (k := 1) (fun ks => mv_ok _) (by omega)) (by omega)) (by omega)) (by omega)) (by omega)) (by omega)
 · exact mv_ok A
theorem mv_unwind (hP : Mv ws.length 0 P) : ∀ (l : List NT) (out : NT), Mv ws.length 0 (unwindP ws nb P l out)
 | [], out => mv_ok _
 | last :: rest, out => fun t ht o a t' o' e => by
  unfold unwindP at e
  simp only at e
  split at e
  · rename_i h
    exact mv_here e (by omega) (sy_lt h.2.2)
  · exact mv_then (mv_finished hP _) (j := 0) (k := 0) (fun B => mv_then (mv_suffixed hP B) (j := 0) (k := 0) (fun C => mv_unwind hP rest C) (by omega)) (by omega) t ht o a t' o' e
theorem await_lt {t : Nat} {A : NT} (h : awaitP ws t = some A) : t < ws.length := by
 unfold awaitP at h
 simp only at h
 split at h
 · rename_i h1; exact sy_lt h1
 · split at h
   · rename_i h1; exact sy_lt h1
   · split at h
     · rename_i h1; exact sy_lt h1
     · cases h
theorem mv_post1 (hP : Mv ws.length 0 P) (hO : ∀ l, 1 ≤ l → Mv ws.length 0 (O l)) (a : List NT) : Mv ws.length 1 (pThen (lpP (fun (b : List NT) t o => match awaitP ws t with
 | some A => .ok (.inl (A :: b)) (t + 1) o
 | none => .ok (.inr b) t o) (ws.length + 1) a) fun b => pThen (termP ws nb P O) fun n => pThen (suffixedP ws nb P n) fun m => unwindP ws nb P b m) :=
 mv_then (i := 0) (j := 1) (mv_loop (fun b t o r t' o' ht e => by
  cases h : awaitP ws t with
  | some A =>
   simp only [h] at e
   exact mv_here e (k := 0) (by omega) (await_lt h)
  | none =>
   simp only [h] at e
   exact mv_here e (k := 0) (by omega) ht) _ _) (fun b => mv_then (mv_term hP hO) (j := 0) (fun n => mv_then (mv_suffixed hP n) (j := 0) (fun m => mv_unwind hP b m) (by omega)) (by omega)) (by omega)
theorem mv_loop1 {α β : Type} {L : Nat} {body : α → PM (α ⊕ β)} (hb : ∀ a, Mv L 1 (body a)) (f : Nat) (a : α) : Mv L 1 (lpP body f a) := by
 cases f with
 | zero => exact fun t ht o b t' o' e => by cases e
 | succ f =>
  refine mv_then (hb a) (j := 0) (fun r => ?_) (by omega)
  cases r with
  | inl a' => exact mv_loop (fun a t o r t' o' ht e => by have := hb a t ht o r t' o' e; omega) f a'
  | inr b => exact mv_ok b
theorem mv_post (hP : Mv ws.length 0 P) (hO : ∀ l, 1 ≤ l → Mv ws.length 0 (O l)) : Mv ws.length 1 (postP ws nb P O) := mv_loop1 (fun a => mv_post1 hP hO a) _ _
theorem mv_unary (hP : Mv ws.length 0 P) (hO : ∀ l, 1 ≤ l → Mv ws.length 0 (O l)) : Mv ws.length 1 (unaryP ws nb P O) :=
 mv_then (i := 0) (j := 1) (mv_loop (fun a t o r t' o' ht e => by
  by_cases h : syP ws t [45] = true
  · simp only [if_pos h] at e
    exact mv_here e (k := 0) (by omega) (sy_lt h)
  · simp only [if_neg h] at e
    exact mv_here e (k := 0) (by omega) ht) _ _) (fun ss => mv_then (mv_post hP hO) (j := 0) (fun n => mv_ok _) (by omega)) (by omega)
theorem op_lt {t : Nat} (h : (opZ ws t).2.2.1 ≠ 0) : t < ws.length := by
 by_cases hl : t < ws.length
 · exact hl
 · unfold opZ at h
   rw [hr_none (by omega)] at h
   simp at h
theorem mv_behind (hO : ∀ l, 1 ≤ l → Mv ws.length 0 (O l)) (least : Nat) (hl : 1 ≤ least) (left : NT) : Mv ws.length 0 (behindP ws O least left) := mv_loop (fun a t o r t' o' ht e => by
 simp only at e
 by_cases h : (opZ ws t).2.2.1 < least ∨ a.2.2 < (opZ ws t).2.2.1
 · rw [if_pos h] at e
   exact mv_here e (k := 0) (by omega) ht
 · rw [if_neg h] at e
   have h1 := op_lt (ws := ws) (t := t) (by omega)
   have := mv_then (hO _ (by omega)) (j := 0) (k := 0) (fun n => by split <;> exact mv_ok _) (by omega) (t + 1) (by omega) o r t' o' e
   omega) _ _
theorem mv_operand (hP : Mv ws.length 0 P) (hO : ∀ l, 1 ≤ l → Mv ws.length 0 (O l)) (least : Nat) (hl : 1 ≤ least) : Mv ws.length 1 (operandP ws nb P O least) :=
 mv_then (mv_unary hP hO) (j := 0) (fun n => mv_behind hO least hl n) (by omega)
theorem mv_param : Mv ws.length 1 (paramP ws nb) := fun t ht o a t' o' e => by
 unfold paramP at e
 by_cases h : isP ws 3 t = true
 · rw [if_pos h] at e
   exact mv_here e (by omega) (is_lt (by decide) h)
 · rw [if_neg h] at e
   exact mv_then (mv_be (by decide)) (j := 0) (k := 1) (fun x => mv_ok _) (by omega) t ht o a t' o' e
theorem mv_params : Mv ws.length 0 (paramsP ws nb) := fun t ht o a t' o' e => by
 unfold paramsP at e
 by_cases h : syP ws t [40] = true
 · rw [if_pos h] at e
   have := mv_then (mv_enter [40]) (j := 0) (k := 1) (fun _ => mv_weak (mv_then mv_param (j := 0) (k := 1) (fun a => mv_then (i := 0) (j := 0) (k := 0) (mv_loop (fun l t o r t' o' ht e => by
    by_cases h : syP ws t [59] = true
    · simp only [if_pos h] at e
      have := mva_then (mva_take (sy_lt h)) (j := 0) (k := 1) (fun _ => mv_weak (mv_then mv_param (j := 0) (k := 1) (fun b => mv_ok _) (by omega)) (by omega)) (by omega) o r t' o' e
      omega
    · simp only [if_neg h] at e
      exact mv_here e (k := 0) (by omega) ht) _ _) (fun l => mv_leaves _ _) (by omega)) (by omega)) (by omega)) (by omega) t ht o a t' o' e
   omega
 · rw [if_neg h] at e
   exact mv_here e (by omega) ht
theorem mv_link (hP : Mv ws.length 0 P) (hO : ∀ l, 1 ≤ l → Mv ws.length 0 (O l)) : Mv ws.length 1 (linkP ws nb P O) := fun t ht o a t' o' e => by
 unfold linkP at e
 by_cases h1 : syP ws t [100, 101, 102] = true
 · rw [if_pos h1] at e
   exact mv_then (mv_enter _) (j := 0) (k := 1) (fun x => mv_weak (mv_then (mv_be (by decide)) (j := 0) (k := 1) (fun y => mv_then mv_params (j := 0) (k := 0) (fun l => mv_weak (mv_then (mv_must _) (j := 0) (k := 1) (fun _ => mv_then hP (j := 0) (k := 0) (fun n => mv_leaves _ _) (by omega)) (by omega)) (by omega)) (by omega)) (by omega)) (by omega)) (by omega) t ht o a t' o' e
 · rw [if_neg h1] at e
   by_cases h2 : syP ws t [108, 97, 98, 101, 108] = true
   · rw [if_pos h2] at e
     exact mva_then (mva_take (sy_lt h2)) (j := 0) (k := 1) (fun x => mv_weak (mv_then (mv_be (by decide)) (j := 0) (k := 1) (fun y => mv_weak (mv_then (mv_must _) (j := 0) (k := 1) (fun _ => mv_ok _) (by omega)) (by omega)) (by omega)) (by omega)) (by omega) o a t' o' e
   · rw [if_neg h2] at e
     refine mv_then (mv_unary hP hO) (j := 0) (k := 1) (fun n t1 ht1 o1 a t' o' e => ?_) (by omega) t ht o a t' o' e
     by_cases h3 : syP ws t [45] = false ∧ syP ws t1 [97, 115] = true
     · simp only [if_pos h3] at e
       have := mva_then (mva_take (sy_lt h3.2)) (j := 0) (k := 1) (fun x => mv_weak (mv_then (mv_be (by decide)) (j := 0) (k := 1) (fun y => mv_weak (mv_then (mv_must _) (j := 0) (k := 1) (fun _ => mv_ok _) (by omega)) (by omega)) (by omega)) (by omega)) (by omega) o1 a t' o' e
       omega
     · simp only [if_neg h3] at e
       refine mv_then (mv_behind hO 1 (by omega) n) (j := 0) (k := 0) (fun m t2 ht2 o2 a t' o' e => ?_) (by omega) t1 ht1 o1 a t' o' e
       by_cases h4 : syP ws t2 [124] = true
       · simp only [if_pos h4] at e
         exact mv_here e (by omega) (sy_lt h4)
       · simp only [if_neg h4] at e
         exact mv_here e (by omega) ht2
theorem mv_pipe (hP : Mv ws.length 0 P) (hO : ∀ l, 1 ≤ l → Mv ws.length 0 (O l)) : Mv ws.length 1 (pipeP ws nb P O) := mv_loop1 (fun a => mv_then (mv_link hP hO) (j := 0) (fun r => by split <;> exact mv_ok _) (by omega)) _ _
theorem mv_po : ∀ n, Mv ws.length 1 (poP ws nb n).1 ∧ ∀ l, 1 ≤ l → Mv ws.length 1 ((poP ws nb n).2 l)
 | 0 => ⟨fun t ht o a t' o' e => (by cases e), fun l hl t ht o a t' o' e => (by cases e)⟩
 | n + 1 => by
  have h := mv_po n
  have hP := mv_weak h.1 (j := 0) (by omega)
  have hO : ∀ l, 1 ≤ l → Mv ws.length 0 ((poP ws nb n).2 l) := fun l hl => mv_weak (h.2 l hl) (by omega)
  exact ⟨mv_pipe hP hO, fun l hl => mv_operand hP hO l hl⟩
end
def Bl {α : Type} (x : PM α) : Prop := ∀ t o a t' o', o ≤ 64 → x t o = .ok a t' o' → o' = o
def Up {α : Type} (x : PM α) : Prop := ∀ t o a t' o', o ≤ 64 → x t o = .ok a t' o' → o' = o + 1 ∧ o' ≤ 64
def Dn {α : Type} (x : PM α) : Prop := ∀ t o a t' o', 1 ≤ o → o ≤ 64 → x t o = .ok a t' o' → o' = o - 1
theorem bl_at {α : Type} {a b : α} {n t' o o' : Nat} (e : (.ok a n o : Pr α) = .ok b t' o') : o' = o := by
 injection e with h1 h2 h3
 exact h3.symm
theorem bl_ok {α : Type} (a : α) : Bl (pOk a) := fun t o b t' o' _ h => bl_at h
theorem then_ok {α β : Type} {x : PM α} {f : α → PM β} {t o : Nat} {b : β} {t' o' : Nat} (e : pThen x f t o = .ok b t' o') : ∃ a t1 o1, x t o = .ok a t1 o1 ∧ f a t1 o1 = .ok b t' o' := by
 unfold pThen at e
 cases hx : x t o with
 | bad e1 q => rw [hx] at e; cases e
 | ok a t1 o1 => rw [hx] at e; exact ⟨a, t1, o1, rfl, e⟩
theorem bl_then {α β : Type} {x : PM α} {f : α → PM β} (hx : Bl x) (hf : ∀ a, Bl (f a)) : Bl (pThen x f) := fun t o b t' o' ho e => by
 obtain ⟨a, t1, o1, h1, h2⟩ := then_ok e
 have e1 := hx _ _ _ _ _ ho h1
 have := hf a _ _ _ _ _ (by omega) h2
 omega
theorem bl_wrap {α β : Type} {x : PM α} {f : α → PM β} (hx : Up x) (hf : ∀ a, Dn (f a)) : Bl (pThen x f) := fun t o b t' o' ho e => by
 obtain ⟨a, t1, o1, h1, h2⟩ := then_ok e
 have e1 := hx _ _ _ _ _ ho h1
 have := hf a _ _ _ _ _ (by omega) (by omega) h2
 omega
theorem dn_then {α β : Type} {x : PM α} {f : α → PM β} (hx : Bl x) (hf : ∀ a, Dn (f a)) : Dn (pThen x f) := fun t o b t' o' ho ho2 e => by
 obtain ⟨a, t1, o1, h1, h2⟩ := then_ok e
 have e1 := hx _ _ _ _ _ ho2 h1
 have := hf a _ _ _ _ _ (by omega) (by omega) h2
 omega
theorem dn_end {α β : Type} {x : PM α} {f : α → PM β} (hx : Dn x) (hf : ∀ a, Bl (f a)) : Dn (pThen x f) := fun t o b t' o' ho ho2 e => by
 obtain ⟨a, t1, o1, h1, h2⟩ := then_ok e
 have e1 := hx _ _ _ _ _ ho ho2 h1
 have := hf a _ _ _ _ _ (by omega) h2
 omega
theorem bl_loop {α β : Type} {body : α → PM (α ⊕ β)} (hb : ∀ a, Bl (body a)) : ∀ (f : Nat) (a : α), Bl (lpP body f a)
 | 0, a => fun t o b t' o' _ e => by cases e
 | f + 1, a => bl_then (hb a) (fun r => by
  cases r with
  | inl a' => exact bl_loop hb f a'
  | inr b => exact bl_ok b)
theorem bl_ite {α : Type} {c : Nat → Nat → Prop} [∀ t o, Decidable (c t o)] {x y : PM α} (hx : Bl x) (hy : Bl y) : Bl (fun t o => if c t o then x t o else y t o) := fun t o a t' o' ho e => by
 by_cases hc : c t o
 · simp only [if_pos hc] at e; exact hx _ _ _ _ _ ho e
 · simp only [if_neg hc] at e; exact hy _ _ _ _ _ ho e
theorem dn_ite {α : Type} {c : Nat → Nat → Prop} [∀ t o, Decidable (c t o)] {x y : PM α} (hx : Dn x) (hy : Dn y) : Dn (fun t o => if c t o then x t o else y t o) := fun t o a t' o' ho ho2 e => by
 by_cases hc : c t o
 · simp only [if_pos hc] at e; exact hx _ _ _ _ _ ho ho2 e
 · simp only [if_neg hc] at e; exact hy _ _ _ _ _ ho ho2 e
section
variable {ws : List Tok} {nb : Nat}
theorem bl_ft {α : Type} : Bl (pFt ws nb : PM α) := fun t o a t' o' _ e => by cases e
theorem bl_take : Bl (pTake ws) := fun t o a t' o' _ e => bl_at e
theorem bl_must (s : List UInt8) : Bl (pMust ws nb s) := bl_ite (c := fun t _ => syP ws t s = true) bl_take bl_ft
theorem bl_be (k : Nat) : Bl (pBe ws nb k) := bl_ite (c := fun t _ => isP ws k t = true) bl_take bl_ft
theorem up_open : Up (pOpen ws) := fun t o a t' o' ho e => by
 unfold pOpen at e
 by_cases h : o = 64
 · rw [if_pos h] at e; cases e
 · rw [if_neg h] at e
   injection e with h1 h2 h3
   omega
theorem up_enter (s : List UInt8) : Up (pEnter ws nb s) := fun t o a t' o' ho e => by
 unfold pEnter at e
 by_cases h : syP ws t s = true
 · rw [if_pos h] at e; exact up_open _ _ _ _ _ ho e
 · rw [if_neg h] at e; cases e
theorem dn_leave (s : List UInt8) : Dn (pLeave ws nb s) := dn_then (bl_must s) (fun _ t o a t' o' h1 h2 e => by
 injection e with e1 e2 e3
 exact e3.symm)
theorem dn_leaves {α : Type} (s : List UInt8) (a : α) : Dn (pThen (pLeave ws nb s) fun _ => pOk a) := dn_end (dn_leave s) (fun _ => bl_ok a)
variable {P : PM NT} {O : Nat → PM NT}
theorem bl_group (hP : Bl P) : Bl (groupP ws nb P) := bl_wrap (up_enter _) (fun _ => dn_then hP (fun n => dn_leaves _ _))
theorem bl_list (hP : Bl P) : Bl (listP ws nb P) := bl_wrap (up_enter _) (fun x => dn_then (bl_ite (c := fun t _ => syP ws t [93] = true) (bl_ok _) (bl_then hP (fun n => bl_ok _))) (fun ks => dn_leaves _ _))
theorem bl_text (hP : Bl P) : Bl (textP ws nb P) :=
 bl_ite (c := fun t _ => isP ws 6 t = true) (bl_then bl_take (fun x => bl_ok _)) (bl_ite (c := fun t _ => isP ws 7 t = true)
  (bl_wrap up_open (fun x0 => dn_then (bl_loop (fun a => bl_then hP (fun n => bl_ite (c := fun t _ => isP ws 8 t = true) (fun _ _ _ _ _ _ e => bl_at e) (bl_ok _))) _ _) (fun ks => dn_then (bl_be _) (fun x t o a t' o' h1 h2 e => by
   injection e with e1 e2 e3
   exact e3.symm)))) bl_ft)
theorem bl_pipes (hP : Bl P) (ks : List NT) (least most : Nat) : Bl (pipesP ws nb P ks least most) :=
 bl_wrap (up_enter _) (fun _ => dn_then hP (fun n => dn_then (bl_loop (fun (a : Nat × List NT) => bl_ite (c := fun _ _ => a.1 < most) (bl_ite (c := fun t _ => least ≤ a.1 ∧ syP ws t [59] = false) (bl_ok _) (bl_then (bl_must _) (fun _ => bl_then hP (fun k => bl_ok _)))) (bl_ok _)) _ _) (fun ks => dn_leaves _ _)))
theorem bl_branch (hP : Bl P) (at_ : Nat) : Bl (branchP ws nb P at_) := bl_then hP (fun c => bl_then (bl_must _) (fun _ => bl_then hP (fun n => bl_ok _)))
theorem bl_choice (hP : Bl P) : Bl (choiceP ws nb P) :=
 bl_wrap (up_enter _) (fun x => dn_then (bl_branch hP _) (fun b => dn_then (bl_loop (fun a => bl_ite (c := fun t _ => syP ws t [101, 108, 105, 102] = true) (bl_then bl_take (fun y => bl_then (bl_branch hP _) (fun b => bl_ok _))) (bl_ok _)) _ _) (fun bs => dn_then (bl_ite (c := fun t _ => syP ws t [101, 108, 115, 101] = true) (bl_then bl_take (fun _ => hP)) (fun _ _ _ _ _ _ e => bl_at e)) (fun n => dn_leaves _ _))))
theorem bl_entry (hP : Bl P) (hO : ∀ l, Bl (O l)) (ks : List NT) : Bl (entryP ws nb P O ks) := fun t o a t' o' ho e => by
 unfold entryP at e
 simp only at e
 split at e
 · split at e
   · exact bl_then (bl_must _) (fun _ => bl_then (hO 3) (fun n => bl_ok _)) _ _ _ _ _ ho e
   · exact bl_at e
 · refine bl_then (x := if (hrP ws t).kind = 7 then textP ws nb P else groupP ws nb P) ?_ (fun k => bl_then (bl_must _) (fun _ => bl_then (hO 3) (fun n => bl_ok _))) t o a t' o' ho e
   split
   · exact bl_text hP
   · exact bl_group hP
theorem bl_record (hP : Bl P) (hO : ∀ l, Bl (O l)) : Bl (recordP ws nb P O) :=
 bl_wrap (up_enter _) (fun x => dn_then (bl_ite (c := fun t _ => syP ws t [125] = true) (bl_ok _) (bl_then (bl_entry hP hO []) (fun ks => bl_loop (fun a => bl_ite (c := fun t _ => syP ws t [44] = true) (bl_then bl_take (fun _ => bl_then (bl_entry hP hO a) (fun b => bl_ok _))) (bl_ok _)) _ _))) (fun ks => dn_leaves _ _))
theorem bl_call (hP : Bl P) : Bl (callP ws nb P) := bl_then bl_take (fun x => bl_ite (c := fun t _ => syP ws t [40] = true) (bl_then (bl_pipes hP [] 1 9223372036854775807) (fun ks => bl_ok _)) (bl_ok _))
theorem bl_term (hP : Bl P) (hO : ∀ l, Bl (O l)) : Bl (termP ws nb P O) := fun t o a t' o' ho e => by
 unfold termP at e
 simp only at e
 repeat' split at e
 all_goals first
  | exact bl_at e
  | cases e
  | exact bl_group hP _ _ _ _ _ ho e
  | exact bl_list hP _ _ _ _ _ ho e
  | exact bl_record hP hO _ _ _ _ _ ho e
  | exact bl_choice hP _ _ _ _ _ ho e
  | exact bl_text hP _ _ _ _ _ ho e
  | exact bl_call hP _ _ _ _ _ ho e
  | exact bl_then bl_take (fun _ => bl_then (bl_be _) (fun y => bl_ok _)) _ _ _ _ _ ho e
  | exact bl_then bl_take (fun _ => bl_ite (c := fun t _ => (isP ws 6 t || isP ws 7 t) = true) (bl_then (bl_text hP) (fun k => bl_ok _)) (bl_ok _)) _ _ _ _ _ ho e
theorem bl_bracket (hP : Bl P) (of : NT) : Bl (bracketP ws nb P of) :=
 bl_wrap (up_enter _) (fun x => dn_ite (c := fun t _ => syP ws t [93] = true) (dn_leaves _ _) (dn_ite (c := fun t _ => syP ws t [58] = true) (dn_then bl_take (fun _ => dn_then hP (fun n => dn_leaves _ _))) (dn_then hP (fun m => dn_ite (c := fun t _ => syP ws t [93] = true) (dn_leaves _ _) (dn_then (bl_must _) (fun _ => dn_ite (c := fun t _ => syP ws t [93] = true) (dn_leaves _ _) (dn_then hP (fun n => dn_leaves _ _))))))))
theorem bl_suffixed (hP : Bl P) (a : NT) : Bl (suffixedP ws nb P a) := by
 unfold suffixedP
 exact bl_loop (fun a => bl_ite (c := fun t _ => isP ws 4 t = true) (fun _ _ _ _ _ _ e => bl_at e) (bl_ite (c := fun t _ => syP ws t [46] = true) (bl_then bl_take (fun x => bl_then (bl_text hP) (fun k => bl_ok _))) (bl_ite (c := fun t _ => syP ws t [91] = true) (bl_then (bl_bracket hP a) (fun n => bl_ok _)) (bl_ite (c := fun t _ => syP ws t [63] = true) (fun _ _ _ _ _ _ e => bl_at e) (bl_ok _))))) _ _
theorem bl_finished (hP : Bl P) (A : NT) : Bl (finishedP ws nb P A) := by
 unfold finishedP
 split
 · exact bl_then (bl_must _) (fun _ => bl_then (bl_be _) (fun x => bl_then (bl_pipes hP _ _ _) (fun ks => bl_ok _)))
 · exact bl_ok A
theorem bl_unwind (hP : Bl P) : ∀ (l : List NT) (out : NT), Bl (unwindP ws nb P l out)
 | [], out => bl_ok _
 | last :: rest, out => fun t o a t' o' ho e => by
  unfold unwindP at e
  simp only at e
  split at e
  · exact bl_at e
  · exact bl_then (bl_finished hP _) (fun B => bl_then (bl_suffixed hP B) (fun C => bl_unwind hP rest C)) t o a t' o' ho e
theorem bl_post (hP : Bl P) (hO : ∀ l, Bl (O l)) : Bl (postP ws nb P O) := bl_loop (fun a => bl_then (bl_loop (fun b t o r t' o' ho e => by
 cases h : awaitP ws t with
 | some A => simp only [h] at e; exact bl_at e
 | none => simp only [h] at e; exact bl_at e) _ _) (fun b => bl_then (bl_term hP hO) (fun n => bl_then (bl_suffixed hP n) (fun m => bl_unwind hP b m)))) _ _
theorem bl_unary (hP : Bl P) (hO : ∀ l, Bl (O l)) : Bl (unaryP ws nb P O) := bl_then (bl_loop (fun a => bl_ite (c := fun t _ => syP ws t [45] = true) (fun _ _ _ _ _ _ e => bl_at e) (bl_ok _)) _ _) (fun ss => bl_then (bl_post hP hO) (fun n => bl_ok _))
theorem bl_behind (hO : ∀ l, Bl (O l)) (least : Nat) (left : NT) : Bl (behindP ws O least left) := bl_loop (fun a t o r t' o' ho e => by
 simp only at e
 split at e
 · exact bl_at e
 · exact bl_then (hO _) (fun n => by split <;> exact bl_ok _) _ _ _ _ _ ho e) _ _
theorem bl_operand (hP : Bl P) (hO : ∀ l, Bl (O l)) (least : Nat) : Bl (operandP ws nb P O least) := bl_then (bl_unary hP hO) (fun n => bl_behind hO least n)
theorem bl_param : Bl (paramP ws nb) := bl_ite (c := fun t _ => isP ws 3 t = true) (fun _ _ _ _ _ _ e => bl_at e) (bl_then (bl_be _) (fun x => bl_ok _))
theorem bl_params : Bl (paramsP ws nb) := bl_ite (c := fun t _ => syP ws t [40] = true) (bl_wrap (up_enter _) (fun _ => dn_then bl_param (fun a => dn_then (bl_loop (fun l => bl_ite (c := fun t _ => syP ws t [59] = true) (bl_then bl_take (fun _ => bl_then bl_param (fun b => bl_ok _))) (bl_ok _)) _ _) (fun l => dn_leaves _ _)))) (bl_ok _)
theorem bl_link (hP : Bl P) (hO : ∀ l, Bl (O l)) : Bl (linkP ws nb P O) := fun t o a t' o' ho e => by
 unfold linkP at e
 split at e
 · exact bl_wrap (up_enter _) (fun x => dn_then (bl_be _) (fun y => dn_then bl_params (fun l => dn_then (bl_must _) (fun _ => dn_then hP (fun n => dn_leaves _ _))))) t o a t' o' ho e
 · split at e
   · exact bl_then bl_take (fun x => bl_then (bl_be _) (fun y => bl_then (bl_must _) (fun _ => bl_ok _))) t o a t' o' ho e
   · refine bl_then (bl_unary hP hO) (fun n t1 o1 a t' o' ho1 e => ?_) t o a t' o' ho e
     split at e
     · exact bl_then bl_take (fun x => bl_then (bl_be _) (fun y => bl_then (bl_must _) (fun _ => bl_ok _))) _ _ _ _ _ ho1 e
     · refine bl_then (bl_behind hO 1 n) (fun m t2 o2 a t' o' ho2 e => ?_) t1 o1 a t' o' ho1 e
       split at e <;> exact bl_at e
theorem bl_pipe (hP : Bl P) (hO : ∀ l, Bl (O l)) : Bl (pipeP ws nb P O) := bl_loop (fun a => bl_then (bl_link hP hO) (fun r => by split <;> exact bl_ok _)) _ _
theorem bl_po : ∀ n, Bl (poP ws nb n).1 ∧ ∀ l, Bl ((poP ws nb n).2 l)
 | 0 => ⟨fun t o a t' o' _ e => (by cases e), fun l t o a t' o' _ e => (by cases e)⟩
 | n + 1 => ⟨bl_pipe (bl_po n).1 (bl_po n).2, fun l => bl_operand (bl_po n).1 (bl_po n).2 l⟩
end
end Go.Proofs.YtajnaiddcobkiaaGreatDoor
