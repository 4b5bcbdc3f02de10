import Derived.Test.YtajnaiddcobkiaaGreatDoorM26
import Derived.Test.YtajnaiddcobkiaaGreatDoorM30
namespace Go.Proofs.YtajnaiddcobkiaaGreatDoor
open Go.RowKit
set_option linter.unusedVariables false
set_option linter.unusedSimpArgs false
theorem okZ {α β : Type} {x : PM α} {f : α → PM β} {t o t' o' : Nat} {a : α} (h : x t o = .ok a t' o') : pThen x f t o = f a t' o' := by unfold pThen; rw [h]; rfl
theorem badZ {α β : Type} {x : PM α} {f : α → PM β} {t o e q : Nat} (h : x t o = .bad e q) : pThen x f t o = .bad e q := by unfold pThen; rw [h]; rfl
theorem is_end {ws : List Tok} {t k : Nat} (h : ws.length ≤ t) (hk : k ≠ 0) : isP ws k t = false := by
 cases hc : isP ws k t with
 | false => rfl
 | true => have := is_lt hk hc; omega
section
variable {ws : List Tok} {nb : Nat} {P : PM NT} {O : Nat → PM NT} {t o t' o' e z : Nat} {A : NT}
theorem suff_end (h : ws.length ≤ t) : suffixedP ws nb P A t o = .ok A t o := by
 unfold suffixedP
 rw [lpP, okZ (a := .inr A) (t' := t) (o' := o)]
 · rfl
 · show (if _ then _ else _) = _
   rw [if_neg (by rw [is_end h (by decide)]; decide), if_neg (by rw [sy_end h]; decide), if_neg (by rw [sy_end h]; decide), if_neg (by rw [sy_end h]; decide)]
theorem behind_end {least : Nat} (hl : 1 ≤ least) (h : ws.length ≤ t) : behindP ws O least A t o = .ok A t o := by
 unfold behindP
 rw [lpP, okZ (a := .inr A) (t' := t) (o' := o)]
 · rfl
 · show (if _ then _ else _) = _
   rw [opz_end h, if_pos (.inl hl)]
   rfl
theorem post_one (hA : awaitP ws t = none) (ht : termP ws nb P O t o = .ok A t' o') (he : ws.length ≤ t') : postP ws nb P O t o = .ok A t' o' := by
 unfold postP
 rw [lpP, okZ (a := .inr A) (t' := t') (o' := o')]
 · rfl
 · rw [okZ (a := []) (t' := t) (o' := o), okZ ht, okZ (suff_end he)]
   · rfl
   · rw [lpP, okZ (a := .inr []) (t' := t) (o' := o)]
     · rfl
     · rw [hA]
theorem post_bad (hA : awaitP ws t = none) (ht : termP ws nb P O t o = .bad e z) : postP ws nb P O t o = .bad e z := by
 unfold postP
 rw [lpP, badZ (e := e) (q := z)]
 rw [okZ (a := []) (t' := t) (o' := o), badZ ht]
 rw [lpP, okZ (a := .inr []) (t' := t) (o' := o)]
 · rfl
 · rw [hA]
theorem unary_of {r : Pr NT} (h1 : syP ws t [45] = false) (hp : postP ws nb P O t o = r) : unaryP ws nb P O t o = r := by
 unfold unaryP
 rw [okZ (a := []) (t' := t) (o' := o)]
 · cases r with
   | ok B t2 o2 => rw [okZ hp]; rfl
   | bad e z => rw [badZ hp]
 · rw [lpP, okZ (a := .inr []) (t' := t) (o' := o)]
   · rfl
   · show (if _ then _ else _) = _
     rw [if_neg (by rw [h1]; decide)]
theorem pipe_one (h1 : syP ws t [45] = false) (h2 : syP ws t [100, 101, 102] = false) (h3 : syP ws t [108, 97, 98, 101, 108] = false) (hA : awaitP ws t = none) (ht : termP ws nb P O t o = .ok A t' o') (he : ws.length ≤ t') : pipeP ws nb P O t o = .ok A t' o' := by
 have hu := unary_of h1 (post_one hA ht he)
 have hl : linkP ws nb P O t o = .ok (A, false) t' o' := by
  unfold linkP
  rw [if_neg (by rw [h2]; decide), if_neg (by rw [h3]; decide), okZ hu, if_neg (by rw [sy_end (t := t') he]; intro h; cases h.2), okZ (behind_end (Nat.le_refl 1) he), if_neg (by rw [sy_end he]; decide)]
 unfold pipeP
 rw [lpP, okZ (a := .inr A) (t' := t') (o' := o')]
 · rfl
 · rw [okZ hl]
   rfl
theorem pipe_bad (h1 : syP ws t [45] = false) (h2 : syP ws t [100, 101, 102] = false) (h3 : syP ws t [108, 97, 98, 101, 108] = false) (hA : awaitP ws t = none) (ht : termP ws nb P O t o = .bad e z) : pipeP ws nb P O t o = .bad e z := by
 have hu := unary_of h1 (post_bad hA ht)
 have hl : linkP ws nb P O t o = .bad e z := by
  unfold linkP
  rw [if_neg (by rw [h2]; decide), if_neg (by rw [h3]; decide), badZ hu]
 unfold pipeP
 rw [lpP, badZ (e := e) (q := z)]
 rw [badZ hl]
end
def brW (l : List UInt8) (ws : List Tok) : List Tok := opT :: (ws.map shT1 ++ [clT l])
theorem brW_len (l : List UInt8) (ws : List Tok) : (brW l ws).length = ws.length + 2 := by unfold brW; simp
theorem brW_at (l : List UInt8) (ws : List Tok) {t : Nat} (h : t < ws.length) : hrP (brW l ws) (t + 1) = shT1 (hrP ws t) := by
 unfold hrP brW
 rw [List.getD_cons_succ, List.getD, List.getElem?_append_left (by rw [List.length_map]; exact h), List.getElem?_map, List.getElem?_eq_getElem h, List.getD, List.getElem?_eq_getElem h]
 rfl
theorem brW_end (l : List UInt8) (ws : List Tok) : hrP (brW l ws) (ws.length + 1) = clT l := by
 unfold hrP brW
 rw [List.getD_cons_succ, List.getD, List.getElem?_append_right (by rw [List.length_map]; exact Nat.le_refl _), List.length_map, Nat.sub_self]
 rfl
theorem brW_se (l : List UInt8) (ws : List Tok) (nb nb' : Nat) : SE ws (brW l ws) nb nb' 1 (fun _ => False) (· + 1) :=
 ⟨fun t h => by rw [brW_at l ws h]; exact ⟨rfl, rfl, rfl⟩, .inl ⟨by decide, fun _ h => h, by rw [brW_end]; rfl, by rw [brW_end]; rfl⟩, by rw [brW_len]; omega, fun h => h⟩
theorem br_whole (l : List UInt8) (ws : List Tok) (nb nb' : Nat) {T : NT} {t o : Nat} (hw : wholeP ws nb = .ok T t o) : (∃ z, wholeP (brW l ws) nb' = .bad 172 z) ∨ ∃ T' t' o', wholeP (brW l ws) nb' = .ok T' t' o' ∧ noA T = noA T' := by
 have E := brW_se l ws nb nb'
 obtain ⟨hP, _⟩ := s_po E (Nat.le_refl 1) (ws.length + 1) (ws.length + 2) (by omega)
 have h0 := hP 0 0 (Nat.zero_le _)
 have hs : ∀ s, s ≠ [40] → syP (brW l ws) 0 s = false := fun s hs => by
  unfold syP
  rw [show hrP (brW l ws) 0 = opT from rfl, Bool.and_eq_false_iff]
  refine .inr ?_
  cases hb : (opT.text == s : Bool) with
  | false => rfl
  | true => exact absurd (eq_of_beq hb).symm hs
 have hA : awaitP (brW l ws) 0 = none := by
  unfold awaitP
  rw [hs _ (by decide), hs _ (by decide), hs _ (by decide)]
  rfl
 have hfu : (brW l ws).length + 1 = ws.length + 2 + 1 := by rw [brW_len]
 have hterm : termP (brW l ws) nb' (poP (brW l ws) nb' (ws.length + 2)).1 (poP (brW l ws) nb' (ws.length + 2)).2 0 0 = groupP (brW l ws) nb' (poP (brW l ws) nb' (ws.length + 2)).1 0 0 := rfl
 have hent : pEnter (brW l ws) nb' [40] 0 0 = .ok opT 1 1 := rfl
 unfold wholeP at hw
 cases hx : (poP ws nb (ws.length + 1)).1 0 0 with
 | bad e q => rw [badZ hx] at hw; cases hw
 | ok p t1 o1 =>
  rw [okZ hx] at hw
  have hw2 : ¬ t1 < ws.length := fun h => by
   rw [if_pos h] at hw
   cases hw
  rw [if_neg hw2] at hw
  injection hw with hw3 _ _
  subst hw3
  rw [hx] at h0
  rcases h0 with ⟨_, z, h1⟩ | ⟨h1, rfl, q, h2, h3⟩
  · refine .inl ⟨z, ?_⟩
    have hg : groupP (brW l ws) nb' (poP (brW l ws) nb' (ws.length + 2)).1 0 0 = .bad 172 z := by
     unfold groupP
     rw [okZ hent, badZ h1]
    unfold wholeP
    rw [hfu, badZ (e := 172) (q := z)]
    exact pipe_bad (hs _ (by decide)) (hs _ (by decide)) (hs _ (by decide)) hA (hterm.trans hg)
  · refine .inr ⟨q, ws.length + 2, 0, ?_, h3⟩
    have ht1 : t1 = ws.length := by omega
    subst ht1
    have hg : groupP (brW l ws) nb' (poP (brW l ws) nb' (ws.length + 2)).1 0 0 = .ok q (ws.length + 2) 0 := by
     unfold groupP
     rw [okZ hent, okZ h2, okZ (a := ()) (t' := ws.length + 2) (o' := 0)]
     · rfl
     · unfold pLeave
       rw [okZ (a := clT l) (t' := ws.length + 2) (o' := 1)]
       unfold pMust
       rw [if_pos (by unfold syP; rw [brW_end]; rfl)]
       show Pr.ok _ _ _ = _
       rw [brW_end]
    unfold wholeP
    rw [hfu, okZ (a := q) (t' := ws.length + 2) (o' := 0)]
    · rw [if_neg (by rw [brW_len]; omega)]
    · exact pipe_one (hs _ (by decide)) (hs _ (by decide)) (hs _ (by decide)) hA (hterm.trans hg) (by rw [brW_len]; omega)
end Go.Proofs.YtajnaiddcobkiaaGreatDoor
