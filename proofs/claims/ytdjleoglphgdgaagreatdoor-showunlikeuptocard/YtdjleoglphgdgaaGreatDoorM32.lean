import Derived.Test.YtdjleoglphgdgaaGreatDoorM31
import Derived.Test.YtdjleoglphgdgaaGreatDoorM30
import Derived.Test.YtdjleoglphgdgaaGreatDoorM12
import Derived.Test.YtdjleoglphgdgaaGreatDoorM21
import Derived.Test.YtdjleoglphgdgaaGreatDoorM0
namespace Go.Proofs.YtdjleoglphgdgaaGreatDoor
open Go.RowKit Go.Shelf
set_option linter.unusedVariables false
set_option linter.unusedSimpArgs false
variable {ws : List Tok} {nb : Nat}

theorem unw_cons (P : PM NT) (last : NT) (rest : List NT) (out : NT) (t o : Nat) : unwindP ws nb P (last :: rest) out t o = (if (addK last out).op = 10 ∧ (addK last out).kids.length = 1 ∧ syP ws t [99, 97, 116, 99, 104] = true then .ok (.inl (addK last out :: rest)) (t + 1) o
      else pThen (finishedP ws nb P (addK last out)) (fun B => pThen (suffixedP ws nb P B) fun C => unwindP ws nb P rest C) t o) := rfl
theorem EQ.lpr' {α β : Type} {body : α → PM (α ⊕ β)} {f : Nat} {a : α} {b : β} {t o t1 o1 e : Nat} (hf : 0 < f) (h : EQ e (body a t o) (.ok (.inr b) t1 o1)) : EQ e (lpP body f a t o) (.ok b t1 o1) := by
  obtain ⟨g, rfl⟩ : ∃ g, f = g + 1 := ⟨f - 1, by omega⟩
  exact EQ.lpr h
/-- reduce, foreach -/
theorem aw_loop {F t o e : Nat} {b : List NT} {s : List UInt8} {op : Int} (hF : ws.length + 1 ≤ F + 1 + t) (ho : s = [114, 101, 100, 117, 99, 101] ∧ op = 30 ∨ s = [102, 111, 114, 101, 97, 99, 104] ∧ op = 31 ∨ s = [116, 114, 121] ∧ op = 10) (h : nx ws t = (2, s)) : EQ e (lpP (awBR ws) (F + 1) b t o) (lpP (awBR ws) F (ndP op (hrP ws t).at_ [] :: b) (t + 1) o) := by
  refine EQ.lpl (.of ?_)
  unfold awBR awaitP
  rcases ho with ⟨rfl, rfl⟩ | ⟨rfl, rfl⟩ | ⟨rfl, rfl⟩
  all_goals (simp only [syP_kk, h]; rfl)
theorem term_loop {at_ op : Int} {s : List UInt8} {x : ByteArray} {Ls L : KL} {Ms : List KL} {src k : NT} {ks : List NT} (ho : s = [114, 101, 100, 117, 99, 101] ∧ op = 30 ∧ ks.length = 1 ∨ s = [102, 111, 114, 101, 97, 99, 104] ∧ op = 31 ∧ 1 ≤ ks.length ∧ ks.length ≤ 2) (h : TermC ws nb Ls src) (hk : PipC ws nb L k) (hks : PipL ws nb Ms ks) :
    TermC ws nb ((2, s) :: (Ls ++ ((2, [97, 115]) :: (3, x.data.toList) :: (10, [40]) :: (L ++ (rowS Ms ++ [(10, [41])]))))) (.mk op at_ x vtN [] (src :: k :: ks)) := by
  refine ⟨⟨_, _, rfl, by rcases ho with ⟨rfl, _⟩ | ⟨rfl, _⟩ <;> rfl⟩, fun m t o b F hm hF ha hb => ?_⟩
  obtain ⟨k1, k2, k3⟩ := ha.hd
  obtain ⟨k4, k5⟩ := k3.app
  obtain ⟨k6, k7, k8⟩ := k5.hd
  obtain ⟨k9, k10, k11⟩ := k8.hd
  obtain ⟨k12, k13, _⟩ := k11.hd
  obtain ⟨F, rfl⟩ : ∃ F0, F = F0 + 1 := ⟨F - 1, by omega⟩
  have ho2 : s = [114, 101, 100, 117, 99, 101] ∧ op = 30 ∨ s = [102, 111, 114, 101, 97, 99, 104] ∧ op = 31 ∨ s = [116, 114, 121] ∧ op = 10 := by
    rcases ho with ⟨h1, h2, _⟩ | ⟨h1, h2, _⟩
    · exact .inl ⟨h1, h2⟩
    · exact .inr (.inl ⟨h1, h2⟩)
  have hop : op = 30 ∨ op = 31 := by rcases ho with ⟨_, h2, _⟩ | ⟨_, h2, _⟩ <;> omega
  obtain ⟨src', F1, e1, hF1, h1⟩ := h.2 m (t + 1) o (ndP op (hrP ws t).at_ [] :: b) F (by omega) (by omega) k4 (by rw [k6]; rfl)
  obtain ⟨ks', e2, h2⟩ := pipes_ok (n := m) (t := t + 1 + Ls.length + 1 + 1) (o := o) (least := 2) (most := if op = 30 then 2 else 3) (acc := [src']) hk hks (by omega) k11 (by rcases ho with ⟨_, _, h⟩ | ⟨_, _, h, _⟩ <;> omega) (by rcases ho with ⟨_, h2, h⟩ | ⟨_, h2, h, h3⟩ <;> rw [h2] <;> simp <;> omega)
  have el : t + ((2, s) :: (Ls ++ ((2, [97, 115]) :: (3, x.data.toList) :: (10, [40]) :: (L ++ (rowS Ms ++ [(10, [41])])))) : KL).length = t + 1 + Ls.length + 1 + 1 + (1 + L.length + (rowS Ms).length + 1) := by simp; omega
  rw [el]
  refine ⟨.mk op (hrP ws t).at_ ⟨(hrP ws (t + 1 + Ls.length + 1)).text.toArray⟩ vtN [] (src' :: ks'), ws.length + 1, ?_, by omega, ?_⟩
  · rw [(kk_k k9).2]
    refine noA_eq.2 ⟨rfl, rfl, rfl, rfl, ?_⟩
    show noAs (src' :: ks') = noAs (src :: k :: ks)
    rw [noAs, noAs, e1, e2]
  · unfold QQ
    refine ((aw_loop (by omega) ho2 k1).bdd _).trans ?_
    refine h1.trans ?_
    unfold RR
    refine (EQ.thn (suf_end (by omega) (by have := h.1.le k4; omega) (by rw [k6]; rfl))).trans ?_
    rw [unw_cons, if_neg (by rintro ⟨h, _⟩; have h : op = 10 := h; omega)]
    refine (EQ.thn (a := (.mk op (hrP ws t).at_ ⟨(hrP ws (t + 1 + Ls.length + 1)).text.toArray⟩ vtN [] (src' :: ks') : NT)) (t1 := t + 1 + Ls.length + 1 + 1 + (1 + L.length + (rowS Ms).length + 1)) (o1 := o) ?_).trans (.refl _ _)
    unfold finishedP
    rw [if_pos (show (addK (ndP op (hrP ws t).at_ []) src').op = 30 ∨ (addK (ndP op (hrP ws t).at_ []) src').op = 31 from hop)]
    refine (EQ.thn (must_ok (by rw [k6]; rfl))).trans ?_
    refine (EQ.thn (be_ok (by rw [k9]))).trans ?_
    exact (EQ.thn h2).trans (.refl _ _)
theorem post_try {at_ : Int} {L M : KL} {a b : NT} (h : TermC ws nb L a) (h2 : TermC ws nb M b) : PostC ws nb ((2, [116, 114, 121]) :: (L ++ ((2, [99, 97, 116, 99, 104]) :: M))) (.mk 10 at_ .empty vtN [] [a, b]) := by
  refine ⟨⟨_, _, rfl, rfl⟩, fun m t o hm ha hb hs => ?_⟩
  obtain ⟨k1, k2, k3⟩ := ha.hd
  obtain ⟨k4, k5⟩ := k3.app
  obtain ⟨k6, k7, k8⟩ := k5.hd
  have l1 := h.1.le k4
  have l2 := h2.1.le k8
  have el : t + ((2, [116, 114, 121]) :: (L ++ ((2, [99, 97, 116, 99, 104]) :: M)) : KL).length = t + 1 + L.length + 1 + M.length := by simp; omega
  rw [el] at hb hs ⊢
  obtain ⟨a', F1, e1, hF1, q1⟩ := h.2 m (t + 1) o [ndP 10 (hrP ws t).at_ []] ws.length (by omega) (by omega) k4 (by rw [k6]; rfl)
  obtain ⟨b', F2, e2, hF2, q2⟩ := h2.2 m (t + 1 + L.length + 1) o [addK (ndP 10 (hrP ws t).at_ []) a'] (ws.length + 1) (by omega) (by omega) k8 hb
  refine ⟨ndP 10 (hrP ws t).at_ [a', b'], noA_eq.2 ⟨rfl, rfl, rfl, rfl, by show noAs [a', b'] = noAs [a, b]; simp only [noAs, e1, e2]⟩, ?_⟩
  rw [post_eq']
  refine (EQ.lpl (a' := [addK (ndP 10 (hrP ws t).at_ []) a']) (t1 := t + 1 + L.length + 1) (o1 := o) ?_).trans (EQ.lpr' (by omega) ?_)
  · unfold QQ
    refine ((aw_loop (by omega) (.inr (.inr ⟨rfl, rfl⟩)) k1).bdd _).trans ?_
    refine q1.trans ?_
    unfold RR
    refine (EQ.thn (suf_end (by omega) (by omega) (by rw [k6]; rfl))).trans ?_
    rw [unw_cons, if_pos ⟨rfl, rfl, by rw [syP_kk, k6]; rfl⟩]
    exact .refl _ _
  · refine q2.trans ?_
    unfold RR
    refine (EQ.thn (suf_end (by omega) (by omega) hs)).trans ?_
    rw [unw_cons, if_neg (by rintro ⟨_, h, _⟩; have h : (2 : Nat) = 1 := h; omega)]
    refine (EQ.thn (a := ndP 10 (hrP ws t).at_ [a', b']) (t1 := t + 1 + L.length + 1 + M.length) (o1 := o) (.refl _ _)).trans ?_
    rw [suf_eq]
    exact (EQ.thn (suf_end (by omega) (by omega) hs)).trans (.refl _ _)
/-- a text with filters in it -/
inductive JnL (ws : List Tok) (nb : Nat) : KL → List NT → Prop where
  | last {L : KL} {k : NT} {at_ : Int} {x : ByteArray} : PipC ws nb L k → JnL ws nb (L ++ [(9, x.data.toList)]) [k, .mk 2 at_ .empty (.mk 4 .empty x [] []) [] []]
  | more {L M : KL} {k : NT} {ks : List NT} {at_ : Int} {x : ByteArray} : PipC ws nb L k → JnL ws nb M ks → JnL ws nb (L ++ ((8, x.data.toList) :: M)) (k :: .mk 2 at_ .empty (.mk 4 .empty x [] []) [] [] :: ks)
def jnB (ws : List Tok) (P : PM NT) (a : List NT × Tok) : PM (List NT × Tok ⊕ List NT) := pThen P fun n t o => if isP ws 8 t then .ok (.inl (a.1 ++ [saidP a.2, n], hrP ws t)) (t + 1) o else .ok (.inr (a.1 ++ [saidP a.2, n])) t o
theorem jn_loop {n o : Nat} {M : KL} {ks : List NT} (h : JnL ws nb M ks) : ∀ (t F : Nat) (acc : List NT) (x : Tok), ws.length + 1 ≤ n + t → ws.length + 1 ≤ F + t → AtT ws t M →
    ∃ ks' y, noAs (ks' ++ [saidP y]) = noAs ks ∧ y = hrP ws (t + M.length - 1) ∧ 1 ≤ M.length ∧ t + M.length ≤ ws.length ∧ (nx ws (t + M.length - 1)).1 = 9 ∧ EQ o (lpP (jnB ws (Pm ws nb n)) F (acc, x) t o) (.ok (acc ++ saidP x :: ks') (t + M.length - 1) o) := by
  induction h with
  | @last L k at_ x0 h =>
    intro t F acc x hn hF ha
    obtain ⟨k1, k2⟩ := ha.app
    obtain ⟨k3, k4, _⟩ := k2.hd
    obtain ⟨k', e, h1⟩ := pip_call h (n := n) (t := t) (o := o) hn k1 (clo_of k3 rfl)
    obtain ⟨F, rfl⟩ : ∃ F0, F = F0 + 1 := ⟨F - 1, by omega⟩
    have el : t + (L ++ [(9, x0.data.toList)]).length - 1 = t + L.length := by simp
    rw [el]
    refine ⟨[k'], hrP ws (t + L.length), ?_, rfl, by simp, by simp; omega, by rw [k3], ?_⟩
    · show noAs [k', saidP _] = noAs [k, _]
      simp only [noAs, e, said_of k3]
      rfl
    · refine EQ.lpr ?_
      refine (EQ.thn h1).trans (.of ?_)
      rw [show isP ws 8 (t + L.length) = false by unfold isP; rw [(kk_k k3).1]; rfl]
      rfl
  | @more L M k ks at_ x0 h hs ih =>
    intro t F acc x hn hF ha
    obtain ⟨k1, k2⟩ := ha.app
    obtain ⟨k3, k4, k5⟩ := k2.hd
    obtain ⟨k', e, h1⟩ := pip_call h (n := n) (t := t) (o := o) hn k1 (clo_of k3 rfl)
    obtain ⟨F, rfl⟩ : ∃ F0, F = F0 + 1 := ⟨F - 1, by omega⟩
    obtain ⟨ks', y, e1, e2, e3, e4, e5, h2⟩ := ih (t + L.length + 1) F (acc ++ [saidP x, k']) (hrP ws (t + L.length)) (by omega) (by omega) k5
    have el : t + (L ++ ((8, x0.data.toList) :: M)).length = t + L.length + 1 + M.length := by simp; omega
    rw [el]
    refine ⟨k' :: saidP (hrP ws (t + L.length)) :: ks', y, ?_, e2, by rw [List.length_append, List.length_cons]; omega, e4, e5, ?_⟩
    · show noAs (k' :: saidP _ :: (ks' ++ [saidP y])) = noAs (k :: _ :: ks)
      simp only [noAs, e, said_of k3, e1]
      rfl
    · refine (EQ.lpl (a' := (acc ++ [saidP x, k'], hrP ws (t + L.length))) (t1 := t + L.length + 1) (o1 := o) ?_).trans ?_
      · refine (EQ.thn h1).trans (.of ?_)
        rw [show isP ws 8 (t + L.length) = true by unfold isP; rw [(kk_k k3).1]; rfl]
        rfl
      · rw [List.append_assoc] at h2
        exact h2
theorem text_join {n t o : Nat} {M : KL} {ks : List NT} {x : ByteArray} {at_ at2 : Int} (h : JnL ws nb M ks) (hn : ws.length ≤ n + t) (ha : AtT ws t ((7, x.data.toList) :: M)) :
    ∃ A', noA A' = noA (.mk 3 at_ .empty vtN [] (.mk 2 at2 .empty (.mk 4 .empty x [] []) [] [] :: ks)) ∧ EQ o (textP ws nb (Pm ws nb n) t o) (.ok A' (t + 1 + M.length) o) := by
  obtain ⟨k1, k2, k3⟩ := ha.hd
  obtain ⟨ks', y, e1, e2, e3, e4, e5, h2⟩ := jn_loop (n := n) (o := o + 1) h (t + 1) (ws.length + 1) [] (hrP ws t) (by omega) (by omega) k3
  refine ⟨ndP 3 (hrP ws t).at_ (saidP (hrP ws t) :: (ks' ++ [saidP y])), ?_, ?_⟩
  · refine noA_eq.2 ⟨rfl, rfl, rfl, rfl, ?_⟩
    show noAs (saidP _ :: (ks' ++ [saidP y])) = noAs (_ :: ks)
    simp only [noAs, said_of k1, e1]
    rfl
  · unfold textP isP
    rw [(kk_k k1).1, if_neg (by decide), if_pos (by decide)]
    refine (EQ.thn open_ok).trans ?_
    refine (EQ.thn h2.inn).trans ?_
    refine (EQ.thn (be_ok e5)).trans (.of ?_)
    rw [show t + 1 + M.length - 1 + 1 = t + 1 + M.length by omega, ← e2]
    rfl
theorem term_join {M : KL} {ks : List NT} {x : ByteArray} {at_ at2 : Int} (h : JnL ws nb M ks) : TermC ws nb ((7, x.data.toList) :: M) (.mk 3 at_ .empty vtN [] (.mk 2 at2 .empty (.mk 4 .empty x [] []) [] [] :: ks)) := by
  refine termC_leaf ⟨_, _, rfl, rfl⟩ fun m t o hm ha hb => ?_
  obtain ⟨A', e, h1⟩ := text_join (at_ := at_) (at2 := at2) (o := o) h hm ha
  refine ⟨A', e, ?_⟩
  obtain ⟨k1, k2, k3⟩ := ha.hd
  unfold termP
  simp only [(kk_k k1).1, reduceIte, Nat.reduceEqDiff, true_or, or_true]
  rw [show t + ((7, x.data.toList) :: M).length = t + 1 + M.length by rw [List.length_cons]; omega]
  exact h1
end Go.Proofs.YtdjleoglphgdgaaGreatDoor
namespace Go.Proofs.YtdjleoglphgdgaaGreatDoor
open Go.RowKit Go.Shelf
set_option linter.unusedVariables false
set_option linter.unusedSimpArgs false
variable {ws : List Tok} {nb : Nat}

/-- an operation's row -/
structure OpR (sg : Nat × List UInt8) (op u g : Nat) : Prop where
  row : (opK sg).2 = (op, u, g)
  brk : brkK sg = false
  suf : sufK sg = false
  as_ : asK sg = false
  lo : 1 ≤ u
  hi : u ≤ 8
theorem bh_round {m F t o e least c op u g : Nat} {w : List NT} {l n : NT} {t1 : Nat} {sg : Nat × List UInt8} (R : OpR sg op u g) (hF : ws.length + 1 ≤ F + t) (ht : t < ws.length) (hs : nx ws t = sg) (h1 : least ≤ u) (h2 : u ≤ c) (hg : g ≠ 1) (h : EQ e (Om ws nb m (u + 1) (t + 1) o) (.ok n t1 o)) :
    EQ e (lpP (bhB ws (Om ws nb m) least) F (w, l, c) t o) (lpP (bhB ws (Om ws nb m) least) (F - 1) ([], ndP op (hrP ws t).at_ [withinP w l, n], if g = 2 then u - 1 else u) t1 o) := by
  obtain ⟨F, rfl⟩ : ∃ F0, F = F0 + 1 := ⟨F - 1, by omega⟩
  rw [Nat.add_sub_cancel]
  refine EQ.lpl ?_
  have hr : (opZ ws t).2 = (op, u, g) := by rw [opZ_kk, hs]; exact R.row
  unfold bhB
  simp only [hr]
  rw [if_neg (by show ¬ (u < least ∨ c < u); omega)]
  refine (EQ.thn h).trans ?_
  rw [if_neg hg]
  exact .refl _ _
theorem ch_round {m F t o e least c op u : Nat} {w : List NT} {l : NT} {sg : Nat × List UInt8} {r : Pr NT} (R : OpR sg op u 1) (hF : ws.length + 1 ≤ F + t) (ht : t < ws.length) (hs : nx ws t = sg) (h1 : least ≤ u) (h2 : u ≤ c) (h : EQ e (pThen (Om ws nb m (u + 1)) (fun n => lpP (bhB ws (Om ws nb m) least) (F - 1) (w ++ [ndP op (hrP ws t).at_ [l]], n, u)) (t + 1) o) r) :
    EQ e (lpP (bhB ws (Om ws nb m) least) F (w, l, c) t o) r := by
  obtain ⟨F, rfl⟩ : ∃ F0, F = F0 + 1 := ⟨F - 1, by omega⟩
  rw [Nat.add_sub_cancel] at h
  refine EQ.trans (.of ?_) h
  have hr : (opZ ws t).2 = (op, u, 1) := by rw [opZ_kk, hs]; exact R.row
  rw [lp_succ]
  show (bhB ws (Om ws nb m) least (w, l, c) t o).bd _ = (Om ws nb m (u + 1) (t + 1) o).bd _
  have : bhB ws (Om ws nb m) least (w, l, c) t o = (Om ws nb m (u + 1) (t + 1) o).bd fun n => pOk (.inl (w ++ [ndP op (hrP ws t).at_ [l]], n, u)) := by
    unfold bhB
    simp only [hr]
    rw [if_neg (by show ¬ (u < least ∨ c < u); omega)]
    rfl
  rw [this]
  cases Om ws nb m (u + 1) (t + 1) o <;> rfl
/-- an operation that groups from the left, or not at all -/
theorem beh_bin {at_ : Int} {op u g vl vr : Nat} {sg : Nat × List UInt8} {L M : KL} {a b : NT} (R : OpR sg op u g) (hg : g ≠ 1) (hgu : g = 2 ↔ (u = 2 ∨ u = 6)) (h : BehC ws nb L a vl) (h2 : OpC ws nb M b vr) (hl : u ≤ vl) (hc : u ≤ cA vl) (hl3 : vl ≠ 3 ∨ u ≤ 2) (hr : u + 1 ≤ vr) (hu3 : u ≠ 3) :
    BehC ws nb (L ++ (sg :: M)) (.mk op at_ .empty vtN [] [a, b]) u := by
  refine ⟨h.1.app, fun m t o least h1 h3 hm ha hf hlv => ?_⟩
  obtain ⟨k1, k2⟩ := ha.app
  obtain ⟨k3, k4, k5⟩ := k2.hd
  have lv : (opK (nx ws (t + L.length))).2.2.1 = u := by rw [k3, R.row]
  obtain ⟨n, t1, ht, ht2, q1, q2, q3⟩ := h.2 m t o least h1 (by omega) hm k1 ⟨by rw [k3]; exact R.brk, by rw [k3]; exact R.suf, by rw [k3]; exact R.as_⟩ (by rw [lv]; exact hl)
  have el : t + (L ++ (sg :: M)).length = t + L.length + 1 + M.length := by simp; omega
  rw [el] at hf hlv ⊢
  refine ⟨n, t1, ht, by omega, q1, q2, fun F hF => ?_⟩
  obtain ⟨F', w, last, c, p1, p2, p3, p4, p5⟩ := q3 F hF
  obtain ⟨b', e, p6⟩ := h2.2 m (t + L.length + 1) o (u + 1) (by omega) hr (by omega) k5 hf (by omega)
  refine ⟨F' - 1, [], ndP op (hrP ws (t + L.length)).at_ [withinP w last, b'], (if g = 2 then u - 1 else u), by omega, fun _ => rfl, ?_, ?_, p5.trans (bh_round R p1 k4 k3 h3 (by omega) hg p6)⟩
  · have h8 := R.hi
    unfold cA
    by_cases h6 : u = 2 ∨ u = 6
    · rw [if_pos h6, if_pos (hgu.2 h6)]; omega
    · rw [if_neg h6, if_neg (fun e => h6 (hgu.1 e))]; omega
  · refine noA_eq.2 ⟨rfl, rfl, rfl, rfl, ?_⟩
    show noAs [withinP w last, b'] = noAs [a, b]
    simp only [noAs, p4, e]
theorem within_app (w v : List NT) (l : NT) : withinP (w ++ v) l = withinP w (withinP v l) := by
  unfold withinP; rw [List.foldr_append]
/-- an operation that groups from the right -/
theorem ch_bin {at_ : Int} {op vl : Nat} {sg : Nat × List UInt8} {L M : KL} {a b : NT} (R : OpR sg op 3 1) (h : OpC ws nb L a vl) (h2 : ChC ws nb M b) (hl : 4 ≤ vl) :
    ChC ws nb (L ++ (sg :: M)) (.mk op at_ .empty vtN [] [a, b]) := by
  refine ⟨h.1.app, fun m t o least F w0 h1 h3 hm hF ha hf hlv => ?_⟩
  obtain ⟨k1, k2⟩ := ha.app
  obtain ⟨k3, k4, k5⟩ := k2.hd
  have lv : (opK (nx ws (t + L.length))).2.2.1 = 3 := by rw [k3, R.row]
  have el : t + (L ++ (sg :: M)).length = t + L.length + 1 + M.length := by simp; omega
  rw [el] at hf hlv ⊢
  have := h.1.le k1
  obtain ⟨a', e, q1⟩ := h.2 m t o 4 (by omega) hl hm k1 ⟨by rw [k3]; exact R.brk, by rw [k3]; exact R.suf, by rw [k3]; exact R.as_⟩ (by rw [lv]; omega)
  obtain ⟨F', w', last, p1, p2, p3⟩ := h2.2 m (t + L.length + 1) o least (F - 1) (w0 ++ [ndP op (hrP ws (t + L.length)).at_ [a']]) h1 h3 (by omega) (by omega) k5 hf hlv
  refine ⟨F', ndP op (hrP ws (t + L.length)).at_ [a'] :: w', last, p1, ?_, ?_⟩
  · refine noA_eq.2 ⟨rfl, rfl, rfl, rfl, ?_⟩
    show noAs [a', withinP w' last] = noAs [a, b]
    simp only [noAs, p2, e]
  · refine (EQ.thn q1).trans ?_
    rw [List.append_assoc] at p3
    exact ch_round R (by omega) k4 k3 h3 (by omega) p3
theorem beh_ch {at_ : Int} {op vl : Nat} {sg : Nat × List UInt8} {L M : KL} {a b : NT} (R : OpR sg op 3 1) (h : BehC ws nb L a vl) (h2 : ChC ws nb M b) (hl : 4 ≤ vl) (hc : 3 ≤ cA vl) :
    BehC ws nb (L ++ (sg :: M)) (.mk op at_ .empty vtN [] [a, b]) 3 := by
  refine ⟨h.1.app, fun m t o least h1 h3 hm ha hf hlv => ?_⟩
  obtain ⟨k1, k2⟩ := ha.app
  obtain ⟨k3, k4, k5⟩ := k2.hd
  have lv : (opK (nx ws (t + L.length))).2.2.1 = 3 := by rw [k3, R.row]
  obtain ⟨n, t1, ht, ht2, q1, q2, q3⟩ := h.2 m t o least h1 (by omega) hm k1 ⟨by rw [k3]; exact R.brk, by rw [k3]; exact R.suf, by rw [k3]; exact R.as_⟩ (by rw [lv]; omega)
  have el : t + (L ++ (sg :: M)).length = t + L.length + 1 + M.length := by simp; omega
  rw [el] at hf hlv ⊢
  refine ⟨n, t1, ht, by omega, q1, q2, fun F hF => ?_⟩
  obtain ⟨F1, w, last, c, p1, p2, p3, p4, p5⟩ := q3 F hF
  obtain rfl := p2 (by omega)
  obtain ⟨F', w', last', p6, p7, p8⟩ := h2.2 m (t + L.length + 1) o least (F1 - 1) ([] ++ [ndP op (hrP ws (t + L.length)).at_ [last]]) h1 h3 (by omega) (by omega) k5 hf hlv
  refine ⟨F', ndP op (hrP ws (t + L.length)).at_ [last] :: w', last', 3, p6, fun h => absurd rfl h, by decide, ?_, p5.trans (ch_round R p1 k4 k3 h3 (by omega) p8)⟩
  refine noA_eq.2 ⟨rfl, rfl, rfl, rfl, ?_⟩
  show noAs [last, withinP w' last'] = noAs [a, b]
  have p4 : noA last = noA a := p4
  simp only [noAs, p4, p7]
/-- pipes -/
theorem pip_link {L S M : KL} {A b : NT} (hp : HdP stA (L ++ S)) (h2 : PipC ws nb M b) (hS : 0 < (L ++ S).length) (h : ∀ m t o, ws.length ≤ m + t → AtT ws t (L ++ (S ++ M)) → ∃ x, noA (addK x b) = noA A ∧ x.kids.length + 1 = A.kids.length ∧ EQ o (linkP ws nb (Pm ws nb m) (Om ws nb m) t o) (.ok (x, true) (t + (L ++ S).length) o)) : PipC ws nb (L ++ (S ++ M)) A := by
  refine ⟨by rw [← List.append_assoc]; exact hp.app, fun m t o a F hm hF ha hc => ?_⟩
  obtain ⟨x, e, _, q1⟩ := h m t o hm ha
  rw [← List.append_assoc] at ha
  obtain ⟨k1, k2⟩ := ha.app
  have l1 := hp.lt k1
  have el : t + (L ++ (S ++ M)).length = t + (L ++ S).length + M.length := by simp; omega
  rw [el] at hc ⊢
  obtain ⟨F, rfl⟩ : ∃ F0, F = F0 + 1 := ⟨F - 1, by omega⟩
  obtain ⟨b', e2, q2⟩ := h2.2 m (t + (L ++ S).length) o (a ++ [x]) F (by omega) (by omega) k2 hc
  refine ⟨addK x b', ?_, ?_⟩
  · rw [← e]
    obtain ⟨x1, x2, x3, x4, x5, x6⟩ := x
    refine noA_eq.2 ⟨rfl, rfl, rfl, rfl, ?_⟩
    show noAs (x6 ++ [b']) = noAs (x6 ++ [b])
    have : ∀ l : List NT, noAs (l ++ [b']) = noAs (l ++ [b]) := by
      intro l
      induction l with
      | nil => simp only [List.nil_append, noAs, e2]
      | cons y l ih => rw [List.cons_append, List.cons_append, noAs, noAs, ih]
    exact this x6
  · refine (EQ.lpl (a' := a ++ [x]) (t1 := t + (L ++ S).length) (o1 := o) ?_).trans ?_
    · exact (EQ.thn q1).trans (.refl _ _)
    · rw [within_app] at q2
      exact q2
theorem pip_pipe {at_ : Int} {v : Nat} {L M : KL} {a b : NT} (h : BehC ws nb L a v) (hv : 1 ≤ v) (h2 : PipC ws nb M b) : PipC ws nb (L ++ ([(10, [124])] ++ M)) (.mk 12 at_ .empty vtN [] [a, b]) := by
  refine pip_link ((h.1.mono fun _ => sb_sa).app) h2 (by simp) fun m t o hm ha => ?_
  obtain ⟨k1, k2⟩ := ha.app
  obtain ⟨k3, k4, k5⟩ := AtT.hd (L := M) k2
  obtain ⟨n, t1, ht, ht2, q1, q2, q3⟩ := h.2 m t o 1 (by omega) hv hm k1 ⟨by rw [k3]; rfl, by rw [k3]; rfl, by rw [k3]; rfl⟩ (by rw [k3]; exact Nat.zero_le _)
  obtain ⟨F', w, last, c, p1, p2, p3, p4, p5⟩ := q3 (ws.length + 1) (by omega)
  obtain ⟨s1, s2⟩ := sb_no (h.1.at_ k1).1
  refine ⟨ndP 12 (hrP ws (t + L.length)).at_ [withinP w last], noA_eq.2 ⟨rfl, rfl, rfl, rfl, by show noAs [withinP w last, b] = noAs [a, b]; simp only [noAs, p4]⟩, rfl, ?_⟩
  rw [show t + (L ++ [(10, [124])] : KL).length = t + L.length + 1 by simp; omega]
  unfold linkP
  rw [syP_kk, syP_kk, s1, s2, if_neg (by decide), if_neg (by decide)]
  refine (EQ.thn q1).trans ?_
  rw [if_neg (by rintro ⟨_, h⟩; rw [syP_kk] at h; unfold asK at q2; rw [q2] at h; cases h), bh_eq]
  refine (EQ.thn (p5.trans (bh_end p1 (by omega) (by rw [k3]; exact Nat.zero_lt_one)))).trans ?_
  rw [syP_kk, k3, if_pos (show kS (10, [124]) [124] = true from rfl)]
  exact .refl _ _
theorem pip_bind {at_ : Int} {L M : KL} {a b : NT} {x : ByteArray} (h : TermC ws nb L a) (h2 : PipC ws nb M b) : PipC ws nb (L ++ ([(2, [97, 115]), (3, x.data.toList), (10, [124])] ++ M)) (.mk 29 at_ x vtN [] [a, b]) := by
  have hu := post_un (term_post h)
  refine pip_link ((h.1.mono fun _ => st_sa).app) h2 (by simp) fun m t o hm ha => ?_
  obtain ⟨k1, k2⟩ := ha.app
  obtain ⟨k3, k4, k5⟩ := AtT.hd (L := (3, x.data.toList) :: (10, [124]) :: M) k2
  obtain ⟨k6, k7, k8⟩ := k5.hd
  obtain ⟨k9, k10, k11⟩ := k8.hd
  obtain ⟨a', e, q1⟩ := hu.2 m t o [] (ws.length + 1) hm (by omega) k1 (by rw [k3]; rfl) (by rw [k3]; rfl)
  obtain ⟨s0, s1, s2⟩ := st_no (h.1.at_ k1).1
  refine ⟨txP 29 (hrP ws (t + L.length)).at_ (hrP ws (t + L.length + 1)).text [a'], ?_, rfl, ?_⟩
  · rw [(kk_k k6).2]
    refine noA_eq.2 ⟨rfl, rfl, rfl, rfl, by show noAs [a', b] = noAs [a, b]; simp only [noAs, e]⟩
  rw [show t + (L ++ [(2, [97, 115]), (3, x.data.toList), (10, [124])] : KL).length = t + L.length + 1 + 1 + 1 by simp; omega]
  unfold linkP
  rw [syP_kk, syP_kk, s1, s2, if_neg (by decide), if_neg (by decide), un_eq]
  refine (EQ.thn q1).trans ?_
  rw [if_pos ⟨by rw [syP_kk]; exact s0, by rw [syP_kk, k3]; rfl⟩]
  refine (EQ.thn (EQ.refl _ _)).trans ?_
  refine (EQ.thn (be_ok (by rw [k6]))).trans ?_
  exact (EQ.thn (must_ok (by rw [k9]; rfl))).trans (.refl _ _)
theorem pip_label {at_ : Int} {M : KL} {b : NT} {x : ByteArray} (h2 : PipC ws nb M b) : PipC ws nb ([(2, [108, 97, 98, 101, 108])] ++ ([(3, x.data.toList), (10, [124])] ++ M)) (.mk 34 at_ x vtN [] [b]) := by
  refine pip_link ⟨_, _, rfl, rfl⟩ h2 (by simp) fun m t o hm ha => ?_
  obtain ⟨k3, k4, k5⟩ := AtT.hd (L := (3, x.data.toList) :: (10, [124]) :: M) ha
  obtain ⟨k6, k7, k8⟩ := k5.hd
  obtain ⟨k9, k10, k11⟩ := k8.hd
  refine ⟨txP 34 (hrP ws t).at_ (hrP ws (t + 1)).text [], by rw [(kk_k k6).2]; rfl, rfl, ?_⟩
  unfold linkP
  rw [syP_kk, syP_kk, k3, if_neg (by decide), if_pos (by decide)]
  refine (EQ.thn (EQ.refl _ _)).trans ?_
  refine (EQ.thn (be_ok (by rw [k6]))).trans ?_
  exact (EQ.thn (must_ok (by rw [k9]; rfl))).trans (.refl _ _)
/-- parameters -/
def pmK (x : ByteArray) : Nat × List UInt8 := if x.data.toList.head? = some 36 then (3, x.data.toList.tail) else (1, x.data.toList)
def pmS (ns : List ByteArray) : KL := ns.flatMap fun x => [(10, [59]), pmK x]
def pmL (ns : List ByteArray) : KL := match ns with
  | [] => []
  | x :: r => (10, [40]) :: pmK x :: (pmS r ++ [(10, [41])])
theorem pmS_cons (x : ByteArray) (r : List ByteArray) : pmS (x :: r) = (10, [59]) :: pmK x :: pmS r := rfl
theorem param_ok {t o e : Nat} {x : ByteArray} (h : nx ws t = pmK x) : EQ e (paramP ws nb t o) (.ok x (t + 1) o) := by
  unfold pmK at h
  unfold paramP isP
  split at h
  · rename_i hx
    rw [(kk_k h).1, if_pos (by decide), (kk_k h).2]
    refine .of ?_
    have : (⟨(36 :: x.data.toList.tail).toArray⟩ : ByteArray) = x := by
      have e : 36 :: x.data.toList.tail = x.data.toList := by
        cases hl : x.data.toList with
        | nil => rw [hl] at hx; cases hx
        | cons a r => rw [hl] at hx; cases hx; rfl
      rw [e]
    rw [this]
  · rw [(kk_k h).1, if_neg (by decide)]
    refine (EQ.thn (be_ok (by rw [h]))).trans (.of ?_)
    rw [(kk_k h).2]
    rfl
theorem params_ok {t o : Nat} {ns : List ByteArray} {R : KL} (hR : ∃ a r, R = a :: r ∧ kS a [40] = false) (ha : AtT ws t (pmL ns ++ R)) : EQ o (paramsP ws nb t o) (.ok ns (t + (pmL ns).length) o) := by
  have lp : ∀ (r : List ByteArray) (t F o : Nat) (acc : List ByteArray), ws.length + 1 ≤ F + t → AtT ws t (pmS r ++ [(10, [41])]) → EQ o (lpP (fun (l : List ByteArray) t o => if syP ws t [59] then pThen (pTake ws) (fun _ => pThen (paramP ws nb) fun b => pOk (.inl (l ++ [b]))) t o else .ok (.inr l) t o) F acc t o) (.ok (acc ++ r) (t + (pmS r).length) o) := by
    intro r
    induction r with
    | nil =>
      intro t F o acc hF h
      obtain ⟨k1, k2, _⟩ := AtT.hd (L := []) h
      refine EQ.lpr' (by omega) (.of ?_)
      rw [syP_kk, k1, List.append_nil]
      rfl
    | cons x r ih =>
      intro t F o acc hF h
      rw [pmS_cons] at h ⊢
      obtain ⟨k1, k2, k3⟩ := h.hd
      obtain ⟨k4, k5, k6⟩ := k3.hd
      obtain ⟨F, rfl⟩ : ∃ F0, F = F0 + 1 := ⟨F - 1, by omega⟩
      have := ih (t + 1 + 1) F o (acc ++ [x]) (by omega) k6
      rw [show t + ((10, [59]) :: pmK x :: pmS r : KL).length = t + 1 + 1 + (pmS r).length by simp; omega]
      rw [List.append_assoc] at this
      refine (EQ.lpl (a' := acc ++ [x]) (t1 := t + 1 + 1) (o1 := o) ?_).trans this
      rw [syP_kk, k1, if_pos (show kS (10, [59]) [59] = true from rfl)]
      refine (EQ.thn (EQ.refl _ _)).trans ?_
      exact (EQ.thn (param_ok k4)).trans (.refl _ _)
  cases ns with
  | nil =>
    obtain ⟨a, r, rfl, hk⟩ := hR
    obtain ⟨k1, k2, _⟩ := AtT.hd (L := r) ha
    refine .of ?_
    unfold paramsP
    rw [syP_kk, k1, hk]
    rfl
  | cons x r =>
    have ha : AtT ws t ((10, [40]) :: pmK x :: (pmS r ++ [(10, [41])] ++ R)) := ha
    obtain ⟨k1, k2, k3⟩ := ha.hd
    obtain ⟨k4, k5, k6⟩ := k3.hd
    obtain ⟨k7, _⟩ := k6.app
    have h1 := lp r (t + 1 + 1) (ws.length + 1) (o + 1) [x] (by omega) k7
    obtain ⟨_, k8⟩ := k7.app
    obtain ⟨k9, k10, _⟩ := k8.hd
    rw [show t + (pmL (x :: r)).length = t + 1 + 1 + (pmS r).length + 1 by unfold pmL; simp; omega]
    unfold paramsP
    rw [syP_kk, k1, if_pos (show kS (10, [40]) [40] = true from rfl)]
    refine (EQ.thn (enter_ok (by rw [k1]; rfl))).trans ?_
    refine (EQ.thn (param_ok k4)).trans ?_
    refine (EQ.thn h1.inn).trans ?_
    exact (EQ.thn (leave_ok (by rw [k9]; rfl))).trans (.refl _ _)
theorem pip_def {at_ : Int} {L M : KL} {a b : NT} {x : ByteArray} {ns : List ByteArray} (h : PipC ws nb L a) (h2 : PipC ws nb M b) : PipC ws nb ([(2, [100, 101, 102])] ++ (((1, x.data.toList) :: (pmL ns ++ ((10, [58]) :: (L ++ [(10, [59])])))) ++ M)) (.mk 32 at_ x vtN ns [a, b]) := by
  refine pip_link ⟨_, _, rfl, rfl⟩ h2 (by simp) fun m t o hm ha => ?_
  obtain ⟨k1, k2, k3⟩ := AtT.hd (L := (((1, x.data.toList) :: (pmL ns ++ ((10, [58]) :: (L ++ [(10, [59])])))) ++ M)) ha
  obtain ⟨k3, _⟩ := k3.app
  obtain ⟨k4, k5, k6⟩ := k3.hd
  have q1 := params_ok (nb := nb) (o := o + 1) ⟨_, _, rfl, rfl⟩ k6
  obtain ⟨_, k7⟩ := k6.app
  obtain ⟨k8, k9, k10⟩ := k7.hd
  obtain ⟨k11, k12⟩ := k10.app
  obtain ⟨k13, k14, _⟩ := k12.hd
  obtain ⟨a', e, q2⟩ := pip_call h (n := m) (t := t + 1 + 1 + (pmL ns).length + 1) (o := o + 1) (by omega) k11 (clo_of k13 rfl)
  refine ⟨.mk 32 ((hrP ws t).at_ : Int) ⟨(hrP ws (t + 1)).text.toArray⟩ vtN ns [a'], ?_, rfl, ?_⟩
  · rw [(kk_k k4).2]
    refine noA_eq.2 ⟨rfl, rfl, rfl, rfl, by show noAs [a', b] = noAs [a, b]; simp only [noAs, e]⟩
  rw [show t + ([(2, [100, 101, 102])] ++ ((1, x.data.toList) :: (pmL ns ++ ((10, [58]) :: (L ++ [(10, [59])])))) : KL).length = t + 1 + 1 + (pmL ns).length + 1 + L.length + 1 by simp; omega]
  unfold linkP
  rw [syP_kk, k1, if_pos (show kS (2, [100, 101, 102]) [100, 101, 102] = true from rfl)]
  refine (EQ.thn (enter_ok (by rw [k1]; rfl))).trans ?_
  refine (EQ.thn (be_ok (by rw [k4]))).trans ?_
  refine (EQ.thn q1.inn).trans ?_
  refine (EQ.thn (must_ok (by rw [k8]; rfl))).trans ?_
  refine (EQ.thn q2.inn).trans ?_
  exact (EQ.thn (leave_ok (by rw [k13]; rfl))).trans (.refl _ _)

/-- a field of a record -/
def EnC (ws : List Tok) (nb : Nat) (E : KL) (a b : NT) : Prop :=
  HdP (fun x => !kS x [125]) E ∧ ∀ m t o acc, ws.length + 1 ≤ m + t → AtT ws t E → Fol (nx ws (t + E.length)) → (opK (nx ws (t + E.length))).2.2.1 < 3 →
    ∃ a' b', noA a' = noA a ∧ noA b' = noA b ∧ EQ o (entryP ws nb (Pm ws nb m) (Om ws nb m) acc t o) (.ok (acc ++ [a', b']) (t + E.length) o)
theorem en_word {L : KL} {b : NT} {v k : Nat} {x : ByteArray} {at_ : Int} (h : OpC ws nb L b v) (hv : 3 ≤ v) (hk : k = 1 ∨ k = 2 ∨ k = 6) (hb : ¬ (k = 2 ∧ x.data.toList = [125])) : EnC ws nb ((k, x.data.toList) :: (10, [58]) :: L) (.mk 2 at_ .empty (.mk 4 .empty x [] []) [] []) b := by
  refine ⟨⟨_, _, rfl, ?_⟩, fun m t o acc hm ha hf hl => ?_⟩
  · unfold kS
    rcases hk with rfl | rfl | rfl
    · rfl
    · simp only [Bool.not_eq_true', Bool.and_eq_false_iff]
      right
      rw [beq_eq_false_iff_ne]
      exact fun e => hb ⟨rfl, e⟩
    · rfl
  obtain ⟨k1, k2, k3⟩ := ha.hd
  obtain ⟨k4, k5, k6⟩ := k3.hd
  have el : t + ((k, x.data.toList) :: (10, [58]) :: L).length = t + 1 + 1 + L.length := by simp; omega
  rw [el] at hf hl ⊢
  obtain ⟨b', e, q1⟩ := h.2 m (t + 1 + 1) o 3 (by omega) hv (by omega) k6 hf hl
  refine ⟨saidP (hrP ws t), b', said_of k1, e, ?_⟩
  unfold entryP
  simp only [(kk_k k1).1]
  rw [if_pos (by omega), syP_kk, k4, if_pos (show kS (10, [58]) [58] = true from rfl)]
  refine (EQ.thn (must_ok (by rw [k4]; rfl))).trans ?_
  exact (EQ.thn q1).trans (.refl _ _)
theorem en_tail {t1 m o : Nat} {L : KL} {b a' : NT} {v : Nat} {acc : List NT} (h : OpC ws nb L b v) (hv : 3 ≤ v) (hm : ws.length + 1 ≤ m + t1) (ha : AtT ws t1 ((10, [58]) :: L)) (hf : Fol (nx ws (t1 + 1 + L.length))) (hl : (opK (nx ws (t1 + 1 + L.length))).2.2.1 < 3) :
    ∃ b', noA b' = noA b ∧ EQ o (pThen (pMust ws nb [58]) (fun _ => pThen (Om ws nb m 3) fun n => pOk (acc ++ [a', n])) t1 o) (.ok (acc ++ [a', b']) (t1 + 1 + L.length) o) := by
  obtain ⟨k4, k5, k6⟩ := ha.hd
  obtain ⟨b', e, q1⟩ := h.2 m (t1 + 1) o 3 (by omega) hv (by omega) k6 hf hl
  refine ⟨b', e, ?_⟩
  refine (EQ.thn (must_ok (by rw [k4]; rfl))).trans ?_
  exact (EQ.thn q1).trans (.refl _ _)
theorem en_paren {K L : KL} {a b : NT} {v : Nat} (hk : PipC ws nb K a) (h : OpC ws nb L b v) (hv : 3 ≤ v) : EnC ws nb ((10, [40]) :: (K ++ ((10, [41]) :: (10, [58]) :: L))) a b := by
  refine ⟨⟨_, _, rfl, rfl⟩, fun m t o acc hm ha hf hl => ?_⟩
  obtain ⟨k1, k2, k3⟩ := ha.hd
  obtain ⟨k4, k5⟩ := k3.app
  obtain ⟨k6, k7, k8⟩ := k5.hd
  have el : t + ((10, [40]) :: (K ++ ((10, [41]) :: (10, [58]) :: L)) : KL).length = t + 1 + K.length + 1 + 1 + L.length := by simp; omega
  rw [el] at hf hl ⊢
  obtain ⟨a', e1, q1⟩ := pip_call hk (n := m) (t := t + 1) (o := o + 1) (by omega) k4 (clo_of k6 rfl)
  obtain ⟨b', e2, q2⟩ := en_tail (o := o) (a' := a') (acc := acc) h hv (show ws.length + 1 ≤ m + (t + 1 + K.length + 1) by omega) k8 hf hl
  refine ⟨a', b', e1, e2, ?_⟩
  unfold entryP
  simp only [(kk_k k1).1, Nat.reduceEqDiff, or_self, reduceIte]
  refine (EQ.thn (a := a') (t1 := t + 1 + K.length + 1) (o1 := o) ?_).trans q2
  unfold groupP
  refine (EQ.thn (enter_ok (by rw [k1]; rfl))).trans ?_
  refine (EQ.thn q1.inn).trans ?_
  exact (EQ.thn (leave_ok (by rw [k6]; rfl))).trans (.refl _ _)
theorem en_join {M L : KL} {b : NT} {ks : List NT} {v : Nat} {x : ByteArray} {at_ at2 : Int} (hk : JnL ws nb M ks) (h : OpC ws nb L b v) (hv : 3 ≤ v) : EnC ws nb ((7, x.data.toList) :: (M ++ ((10, [58]) :: L))) (.mk 3 at_ .empty vtN [] (.mk 2 at2 .empty (.mk 4 .empty x [] []) [] [] :: ks)) b := by
  refine ⟨⟨_, _, rfl, rfl⟩, fun m t o acc hm ha hf hl => ?_⟩
  have ha2 : AtT ws t (((7, x.data.toList) :: M) ++ ((10, [58]) :: L)) := ha
  obtain ⟨k1, k2⟩ := ha2.app
  obtain ⟨k3, k4, _⟩ := k1.hd
  have el : t + ((7, x.data.toList) :: (M ++ ((10, [58]) :: L)) : KL).length = t + 1 + M.length + 1 + L.length := by simp; omega
  have e0 : t + ((7, x.data.toList) :: M : KL).length = t + 1 + M.length := by simp; omega
  rw [el] at hf hl ⊢
  rw [e0] at k2
  obtain ⟨a', e1, q1⟩ := text_join (at_ := at_) (at2 := at2) (o := o) hk (show ws.length ≤ m + t by omega) k1
  obtain ⟨b', e2, q2⟩ := en_tail (o := o) (a' := a') (acc := acc) h hv (show ws.length + 1 ≤ m + (t + 1 + M.length) by omega) k2 hf hl
  refine ⟨a', b', e1, e2, ?_⟩
  unfold entryP
  simp only [(kk_k k3).1, Nat.reduceEqDiff, or_self, reduceIte]
  exact (EQ.thn q1).trans q2
inductive EnL (ws : List Tok) (nb : Nat) : List KL → List NT → Prop where
  | nil : EnL ws nb [] []
  | cons {E : KL} {a b : NT} {Es : List KL} {ks : List NT} : EnC ws nb E a b → EnL ws nb Es ks → EnL ws nb (E :: Es) (a :: b :: ks)
def rowC (Ls : List KL) : KL := Ls.flatMap fun L => (10, [44]) :: L
theorem rowC_cons (L : KL) (Ls : List KL) : rowC (L :: Ls) = (10, [44]) :: (L ++ rowC Ls) := rfl
theorem fol_row {Es : List KL} {t : Nat} (ha : AtT ws t (rowC Es ++ [(10, [125])])) : Fol (nx ws t) ∧ (opK (nx ws t)).2.2.1 < 3 := by
  cases Es with
  | nil =>
    obtain ⟨k6, _, _⟩ := AtT.hd (L := []) ha
    rw [k6]
    exact ⟨⟨rfl, rfl, rfl⟩, by decide⟩
  | cons M Ms =>
    rw [rowC_cons, List.cons_append] at ha
    obtain ⟨k6, _, _⟩ := ha.hd
    rw [k6]
    exact ⟨⟨rfl, rfl, rfl⟩, by decide⟩
theorem rec_loop {m o : Nat} {Es : List KL} {ks : List NT} (h : EnL ws nb Es ks) : ∀ (t F : Nat) (acc : List NT), ws.length + 1 ≤ m + t → ws.length + 1 ≤ F + t → AtT ws t (rowC Es ++ [(10, [125])]) →
    ∃ ks', noAs ks' = noAs ks ∧ EQ o (lpP (fun (a : List NT) t o => if syP ws t [44] then pThen (pTake ws) (fun _ => pThen (entryP ws nb (Pm ws nb m) (Om ws nb m) a) fun b => pOk (.inl b)) t o else .ok (.inr a) t o) F acc t o) (.ok (acc ++ ks') (t + (rowC Es).length) o) := by
  induction h with
  | nil =>
    intro t F acc hm hF ha
    obtain ⟨k1, k2, _⟩ := AtT.hd (L := []) ha
    refine ⟨[], rfl, EQ.lpr' (by omega) (.of ?_)⟩
    rw [syP_kk, k1, List.append_nil]
    rfl
  | @cons E a b Es ks h hs ih =>
    intro t F acc hm hF ha
    rw [rowC_cons] at ha ⊢
    rw [List.cons_append, List.append_assoc] at ha
    obtain ⟨k1, k2, k3⟩ := ha.hd
    obtain ⟨k4, k5⟩ := k3.app
    obtain ⟨f1, f2⟩ := fol_row k5
    obtain ⟨a', b', e1, e2, q1⟩ := h.2 m (t + 1) o acc (by omega) k4 f1 f2
    obtain ⟨F, rfl⟩ : ∃ F0, F = F0 + 1 := ⟨F - 1, by omega⟩
    obtain ⟨ks', e3, q2⟩ := ih (t + 1 + E.length) F (acc ++ [a', b']) (by omega) (by omega) k5
    refine ⟨a' :: b' :: ks', by simp only [noAs, e1, e2, e3], ?_⟩
    rw [show t + ((10, [44]) :: (E ++ rowC Es) : KL).length = t + 1 + E.length + (rowC Es).length by simp; omega]
    rw [List.append_assoc] at q2
    refine (EQ.lpl (a' := acc ++ [a', b']) (t1 := t + 1 + E.length) (o1 := o) ?_).trans q2
    rw [syP_kk, k1, if_pos (show kS (10, [44]) [44] = true from rfl)]
    refine (EQ.thn (EQ.refl _ _)).trans ?_
    exact (EQ.thn q1).trans (.refl _ _)
theorem term_record0 {at_ : Int} : TermC ws nb [(10, [123]), (10, [125])] (.mk 5 at_ .empty vtN [] []) := by
  refine termC_leaf ⟨_, _, rfl, rfl⟩ fun m t o hm ha hb => ?_
  obtain ⟨k1, k2, k3⟩ := ha.hd
  obtain ⟨k4, k5, k6⟩ := k3.hd
  refine ⟨ndP 5 (hrP ws t).at_ [], rfl, ?_⟩
  unfold termP
  simp only [(kk_k k1).1, (kk_k k1).2, List.cons.injEq, and_true, and_false, false_and, reduceIte, reduceCtorEq, Nat.reduceEqDiff]
  unfold recordP
  refine (EQ.thn (enter_ok (by rw [k1]; rfl))).trans ?_
  refine (EQ.thn (a := ([] : List NT)) (t1 := t + 1) (o1 := o + 1) (.of ?_)).trans ?_
  · rw [syP_kk, k4]; rfl
  refine (EQ.thn (leave_ok (by rw [k4]; rfl))).trans ?_
  exact .refl _ _
theorem term_record {at_ : Int} {E : KL} {a b : NT} {Es : List KL} {ks : List NT} (h : EnC ws nb E a b) (hs : EnL ws nb Es ks) : TermC ws nb ((10, [123]) :: (E ++ (rowC Es ++ [(10, [125])]))) (.mk 5 at_ .empty vtN [] (a :: b :: ks)) := by
  refine termC_leaf ⟨_, _, rfl, rfl⟩ fun m t o hm ha hb => ?_
  obtain ⟨k1, k2, k3⟩ := ha.hd
  obtain ⟨k4, k5⟩ := k3.app
  obtain ⟨f1, f2⟩ := fol_row k5
  obtain ⟨k6, k7⟩ := k5.app
  obtain ⟨k8, k9, _⟩ := k7.hd
  obtain ⟨a', b', e1, e2, q1⟩ := h.2 m (t + 1) (o + 1) [] (by omega) k4 f1 f2
  obtain ⟨ks', e3, q2⟩ := rec_loop (m := m) (o := o + 1) hs (t + 1 + E.length) (ws.length + 1) ([] ++ [a', b']) (by omega) (by omega) k5
  have s1 : kS (nx ws (t + 1)) [125] = false := by
    have := (h.1.at_ k4).1
    simpa using this
  refine ⟨ndP 5 (hrP ws t).at_ (a' :: b' :: ks'), noA_eq.2 ⟨rfl, rfl, rfl, rfl, by show noAs (a' :: b' :: ks') = noAs (a :: b :: ks); simp only [noAs, e1, e2, e3]⟩, ?_⟩
  rw [show t + ((10, [123]) :: (E ++ (rowC Es ++ [(10, [125])])) : KL).length = t + 1 + E.length + (rowC Es).length + 1 by simp; omega]
  unfold termP
  simp only [(kk_k k1).1, (kk_k k1).2, List.cons.injEq, and_true, and_false, false_and, reduceIte, reduceCtorEq, Nat.reduceEqDiff]
  unfold recordP
  refine (EQ.thn (enter_ok (by rw [k1]; rfl))).trans ?_
  refine (EQ.thn (a := a' :: b' :: ks') (t1 := t + 1 + E.length + (rowC Es).length) (o1 := o + 1) ?_).trans ?_
  · rw [syP_kk, s1, if_neg (by decide)]
    exact ((EQ.thn q1).trans q2).inn
  exact (EQ.thn (leave_ok (by rw [k8]; rfl))).trans (.refl _ _)
end Go.Proofs.YtdjleoglphgdgaaGreatDoor
namespace Go.Proofs.YtdjleoglphgdgaaGreatDoor
open Go.RowKit
set_option linter.unusedVariables false
set_option linter.unusedSimpArgs false

/-- what is told from a place on, blanks passed over -/
def scI (l : List UInt8) (p : Nat) (op : List Nat) : List Tok := scF l (l.length + 1) (idW l p) op
def Sc (l : List UInt8) (p : Nat) (op : List Nat) (T : KL) (q : Nat) (oq : List Nat) : Prop := ∃ ts, scI l p op = ts ++ scI l q oq ∧ ts.map kk = T ∧ ∀ x ∈ ts, x.err = 0
theorem Sc.trans {l : List UInt8} {p q r : Nat} {op oq oR : List Nat} {T U : KL} (h : Sc l p op T q oq) (k : Sc l q oq U r oR) : Sc l p op (T ++ U) r oR := by
  obtain ⟨ts, a1, a2, a3⟩ := h
  obtain ⟨us, b1, b2, b3⟩ := k
  refine ⟨ts ++ us, by rw [a1, b1, List.append_assoc], by rw [List.map_append, a2, b2], fun x hx => ?_⟩
  rcases List.mem_append.1 hx with h | h
  · exact a3 x h
  · exact b3 x h
theorem idW_me {l : List UInt8} {p : Nat} (hp : p < l.length) (h1 : blB (l.getD p 0) = false) (h2 : (l.getD p 0).toNat ≠ 35) : idW l p = p := by
  unfold idW
  rw [bhP_stop hp h1]
  exact idF_rest fun h => h2 h.2
theorem Sc.tok {l : List UInt8} {p : Nat} {op : List Nat} {t : Tok} (hp : p < l.length) (h1 : blB (l.getD p 0) = false) (h2 : (l.getD p 0).toNat ≠ 35) (h3 : tokW l op p = t) (h4 : t.err = 0) : Sc l p op [kk t] t.fin (openW t op) := by
  refine ⟨[t], ?_, rfl, fun x hx => by rw [List.mem_singleton.1 hx]; exact h4⟩
  unfold scI
  rw [idW_me hp h1 h2, sc_step hp (by rw [h3]; exact h4), h3]
  rfl
/-- a text X is told as T, where what follows is so -/
def Lx (G : List UInt8 → Prop) (X : List UInt8) (T : KL) : Prop := ∀ (l : List UInt8) (p : Nat) (op : List Nat) (r : List UInt8), l.drop p = X ++ r → G r → Sc l p op T (p + X.length) op
theorem Lx.app {G1 G2 : List UInt8 → Prop} {X1 X2 : List UInt8} {T1 T2 : KL} (h1 : Lx G1 X1 T1) (h2 : Lx G2 X2 T2) (hg : ∀ r, G2 r → G1 (X2 ++ r)) : Lx G2 (X1 ++ X2) (T1 ++ T2) := by
  intro l p op r hl hr
  rw [List.append_assoc] at hl
  have h3 := h2 l (p + X1.length) op r (by rw [← List.drop_drop, hl, List.drop_left' rfl]) hr
  rw [List.length_append, ← Nat.add_assoc]
  exact (h1 l p op (X2 ++ r) hl (hg r hr)).trans h3
theorem Lx.mono {G1 G2 : List UInt8 → Prop} {X : List UInt8} {T : KL} (h : Lx G1 X T) (hg : ∀ r, G2 r → G1 r) : Lx G2 X T := fun l p op r hl hr => h l p op r hl (hg r hr)
/-- what a text begins with -/
def An (r : List UInt8) : Prop := True
def FsP (P : UInt8 → Bool) (r : List UInt8) : Prop := ∀ c u, r = c :: u → P c = true
def nbP (c : UInt8) : Bool := !inB c
def nnP (c : UInt8) : Bool := !nuB c
theorem fs_cons {P : UInt8 → Bool} {c : UInt8} {u : List UInt8} (h : P c = true) : FsP P (c :: u) := by
  intro d v e
  obtain ⟨rfl, _⟩ := List.cons.inj e
  exact h
theorem nn_nb {r : List UInt8} (h : FsP nnP r) : FsP nbP r := by
  intro c u e
  have := h c u e
  unfold nnP nuB at this
  unfold nbP
  simp only [Bool.not_eq_true', Bool.or_eq_false_iff] at this
  rw [this.1]; rfl
theorem Lx.nn {X : List UInt8} {T : KL} (h : Lx (FsP nbP) X T) : Lx (FsP nnP) X T := h.mono fun _ => nn_nb
theorem Lx.any {G : List UInt8 → Prop} {X : List UInt8} {T : KL} (h : Lx An X T) : Lx G X T := h.mono fun _ _ => trivial
theorem drop_lt {l : List UInt8} {p : Nat} {c : UInt8} {u : List UInt8} (h : l.drop p = c :: u) : p < l.length ∧ l.getD p 0 = c ∧ l.drop (p + 1) = u := by
  have hl : p < l.length := by
    have := congrArg List.length h
    simp at this
    omega
  rw [drop_getD hl] at h
  obtain ⟨e1, e2⟩ := List.cons.inj h
  exact ⟨hl, e1, e2⟩
theorem run_stop {P : UInt8 → Bool} {l x r : List UInt8} {p : Nat} (hp : p ≤ l.length) (hl : l.drop p = x ++ r) (hx : ∀ c ∈ x, P c = true) (hr : ∀ c u, r = c :: u → P c = false) : bhP P l p = p + x.length := by
  have h1 : (x ++ r).dropWhile P = r := by
    clear hl
    induction x with
    | nil =>
      cases r with
      | nil => rfl
      | cons c u => rw [List.nil_append, List.dropWhile_cons, if_neg (by rw [hr c u rfl]; decide)]
    | cons c x ih => rw [List.cons_append, List.dropWhile_cons, if_pos (hx c List.mem_cons_self)]; exact ih fun d hd => hx d (List.mem_cons_of_mem _ hd)
  have h2 := congrArg List.length hl
  rw [List.length_drop, List.length_append] at h2
  unfold bhP
  rw [hl, h1]
  omega
theorem cut_x {l x r : List UInt8} {p : Nat} (hl : l.drop p = x ++ r) : cut l p (p + x.length) = x := by
  unfold cut
  rw [hl, show p + x.length - p = x.length by omega, List.take_left' rfl]
/-- a blank -/
theorem lx_sp : Lx An [32] [] := by
  intro l p op r hl _
  obtain ⟨h1, h2, h3⟩ := drop_lt hl
  refine ⟨[], ?_, rfl, fun x hx => by cases hx⟩
  unfold scI
  rw [List.nil_append, show idW l p = idW l (p + 1) by unfold idW; rw [bhP_step h1 (by rw [h2]; rfl)]]
  rfl
theorem lx_nil {G : List UInt8 → Prop} : Lx G [] [] := fun l p op r hl _ => ⟨[], rfl, rfl, fun x hx => by cases hx⟩
/-- marks -/
def mk3 (x : List UInt8) : List UInt8 := if mkB (x.take 3) = true then x.take 3 else if mkB (x.take 2) = true then x.take 2 else if mkB (x.take 1) = true then x.take 1 else []
theorem mkW_3 (l : List UInt8) (p : Nat) : mkW l p = mk3 (l.drop p) := rfl
theorem tok_mark {l : List UInt8} {p : Nat} {op : List Nat} {c : UInt8} {u : List UInt8} (hd : l.drop p = c :: u) (h1 : leB c = false) (h2 : c.toNat ≠ 36) (h3 : c.toNat ≠ 46 ∨ nameW l (p + 1) = []) (h4 : dgB c = false) (h5 : c.toNat ≠ 34) (h6 : c.toNat ≠ 41 ∨ clsB op = false) : tokW l op p = markT l p := by
  obtain ⟨e1, e2, e3⟩ := drop_lt hd
  unfold tokW
  rw [e2, h1, h4, if_neg (by decide), if_neg h2, if_neg (by rintro ⟨a, b⟩; rcases h3 with h | h <;> contradiction), if_neg (by decide), if_neg h5, if_neg (by rintro ⟨a, b⟩; rcases h6 with h | h; exact h a; rw [h] at b; cases b)]
theorem sc_mark {l : List UInt8} {p : Nat} {op : List Nat} {c : UInt8} {m u : List UInt8} (hd : l.drop p = (c :: m) ++ u) (h1 : leB c = false) (h2 : c.toNat ≠ 36) (h3 : c.toNat ≠ 46 ∨ nameW l (p + 1) = []) (h4 : dgB c = false) (h5 : c.toNat ≠ 34) (h6 : c.toNat ≠ 41 ∨ clsB op = false) (h7 : blB c = false) (h8 : c.toNat ≠ 35) (hm : mk3 ((c :: m) ++ u) = c :: m) : Sc l p op [(10, c :: m)] (p + (c :: m).length) (openW ⟨10, p, p + (c :: m).length, c :: m, 0⟩ op) := by
  obtain ⟨e1, e2, e3⟩ := drop_lt (show l.drop p = c :: (m ++ u) from hd)
  have ht : tokW l op p = ⟨10, p, p + (c :: m).length, c :: m, 0⟩ := by
    rw [tok_mark (show l.drop p = c :: (m ++ u) from hd) h1 h2 h3 h4 h5 h6]
    unfold markT
    rw [mkW_3, hd, hm, if_neg (List.cons_ne_nil _ _)]
  exact Sc.tok e1 (by rw [e2]; exact h7) (by rw [e2]; exact h8) ht rfl
theorem opn_R {p q : Nat} {m : List UInt8} {op : List Nat} (h1 : m ≠ [40]) (h2 : m ≠ [41]) : openW ⟨10, p, q, m, 0⟩ op = op := by
  unfold openW
  rw [if_neg (show ¬ (10 : Nat) = 7 by decide), if_neg (show ¬ (10 : Nat) = 9 by decide), if_neg (by rintro ⟨_, h⟩; exact h1 h), if_neg (by rintro ⟨_, h⟩; exact h2 h)]
/-- marks of one byte that no other continues -/
theorem mk3_one : ∀ c ∈ ([40, 41, 91, 93, 123, 125, 58, 59, 63, 44] : List UInt8), ∀ u, mk3 (c :: u) = [c] := by
  intro c hc u
  simp only [List.mem_cons, List.not_mem_nil, or_false] at hc
  rcases hc with rfl | rfl | rfl | rfl | rfl | rfl | rfl | rfl | rfl | rfl
  all_goals
    rcases u with _ | ⟨a, _ | ⟨b, u⟩⟩
    all_goals rfl
theorem lx_one {c : UInt8} (hc : c ∈ ([91, 93, 123, 125, 58, 59, 63, 44] : List UInt8)) : Lx An [c] [(10, [c])] := by
  intro l p op r hl _
  have hm := mk3_one c (List.mem_cons_of_mem _ (List.mem_cons_of_mem _ hc)) r
  have hs : ∀ c ∈ ([91, 93, 123, 125, 58, 59, 63, 44] : List UInt8), leB c = false ∧ c.toNat ≠ 36 ∧ c.toNat ≠ 46 ∧ dgB c = false ∧ c.toNat ≠ 34 ∧ c.toNat ≠ 41 ∧ blB c = false ∧ c.toNat ≠ 35 ∧ [c] ≠ [40] ∧ [c] ≠ [41] := by decide
  obtain ⟨s1, s2, s3, s4, s5, s6, s7, s8, s9, s10⟩ := hs c hc
  have := sc_mark (op := op) (m := []) hl s1 s2 (.inl s3) s4 s5 (.inl s6) s7 s8 hm
  rw [opn_R s9 s10] at this
  exact this
/-- marks between blanks -/
theorem mk3_sp : ∀ m ∈ mkL, ∀ u, mk3 (m ++ 32 :: u) = m := by
  intro m hm u
  simp only [mkL, mk2L, mk1L, List.cons_append, List.nil_append, List.mem_cons, List.not_mem_nil, or_false] at hm
  rcases hm with rfl | rfl | rfl | rfl | rfl | rfl | rfl | rfl | rfl | rfl | rfl | rfl | rfl | rfl | rfl | rfl | rfl | rfl | rfl | rfl | rfl | rfl | rfl | rfl | rfl | rfl | rfl | rfl | rfl | rfl | rfl | rfl | rfl
  all_goals
    rcases u with _ | ⟨b, u⟩
    all_goals rfl
theorem mk_chr : ∀ m ∈ mkL, m ≠ [40] → m ≠ [41] → m ≠ [46] → m ≠ [46, 46] → ∃ c x, m = c :: x ∧ leB c = false ∧ c.toNat ≠ 36 ∧ c.toNat ≠ 46 ∧ dgB c = false ∧ c.toNat ≠ 34 ∧ c.toNat ≠ 41 ∧ blB c = false ∧ c.toNat ≠ 35 := by
  intro m hm
  simp only [mkL, mk2L, mk1L, List.cons_append, List.nil_append, List.mem_cons, List.not_mem_nil, or_false] at hm
  rcases hm with rfl | rfl | rfl | rfl | rfl | rfl | rfl | rfl | rfl | rfl | rfl | rfl | rfl | rfl | rfl | rfl | rfl | rfl | rfl | rfl | rfl | rfl | rfl | rfl | rfl | rfl | rfl | rfl | rfl | rfl | rfl | rfl | rfl
  all_goals (intro a1 a2 a3 a4; first | exact ⟨_, _, rfl, by decide⟩ | (exact absurd rfl a1) | (exact absurd rfl a2) | (exact absurd rfl a3) | (exact absurd rfl a4))
theorem lx_mksp {m : List UInt8} (hm : m ∈ mkL) (h1 : m ≠ [40]) (h2 : m ≠ [41]) (h3 : m ≠ [46]) (h4 : m ≠ [46, 46]) : Lx An (m ++ [32]) [(10, m)] := by
  obtain ⟨c, x, rfl, s1, s2, s3, s4, s5, s6, s7, s8⟩ := mk_chr m hm h1 h2 h3 h4
  have h : Lx (fun r => ∃ u, r = 32 :: u) (c :: x) [(10, c :: x)] := by
    rintro l p op r hl ⟨u, rfl⟩
    have := sc_mark (op := op) hl s1 s2 (.inl s3) s4 s5 (.inl s6) s7 s8 (mk3_sp _ hm u)
    rw [opn_R h1 h2] at this
    exact this
  exact h.app lx_sp fun r _ => ⟨r, rfl⟩
theorem lx_minus : Lx (FsP fun c => decide (c ≠ 61)) [45] [(10, [45])] := by
  intro l p op r hl hr
  have hm : mk3 ([45] ++ r) = [45] := by
    rcases r with _ | ⟨a, _ | ⟨b, u⟩⟩
    · rfl
    · have : a ≠ 61 := by simpa using hr a _ rfl
      simp [mk3, mkB, mkL, mk2L, mk1L, this]
    · have : a ≠ 61 := by simpa using hr a _ rfl
      simp [mk3, mkB, mkL, mk2L, mk1L, this]
  have := sc_mark (op := op) (m := []) hl (by decide) (by decide) (.inl (by decide)) (by decide) (by decide) (.inl (by decide)) (by decide) (by decide) hm
  rw [opn_R (by decide) (by decide)] at this
  exact this
theorem nu_le {c : UInt8} (h : nnP c = true) : leB c = false ∧ c ≠ 46 := by
  unfold nnP nuB inB at h
  simp only [Bool.not_eq_true', Bool.or_eq_false_iff, decide_eq_false_iff_not] at h
  exact ⟨h.1.1, fun e => h.2 (by rw [e]; rfl)⟩
theorem lx_dot : Lx (FsP nnP) [46] [(10, [46])] := by
  intro l p op r hl hr
  have hm : mk3 ([46] ++ r) = [46] := by
    rcases r with _ | ⟨a, _ | ⟨b, u⟩⟩
    · rfl
    · have := (nu_le (hr a _ rfl)).2
      simp [mk3, mkB, mkL, mk2L, mk1L, this]
    · have := (nu_le (hr a _ rfl)).2
      simp [mk3, mkB, mkL, mk2L, mk1L, this]
  obtain ⟨e1, e2, e3⟩ := drop_lt hl
  have hn : nameW l (p + 1) = [] := by
    unfold nameW
    refine if_neg fun ⟨h1, h2⟩ => ?_
    have h3 := drop_getD h1
    rw [e3] at h3
    have := (nu_le (hr _ _ h3)).1
    rw [this] at h2
    cases h2
  have := sc_mark (op := op) (m := []) hl (by decide) (by decide) (.inr hn) (by decide) (by decide) (.inl (by decide)) (by decide) (by decide) hm
  rw [opn_R (by decide) (by decide)] at this
  exact this
theorem inc_cls (op : List Nat) : clsB (incL op) = false := by
  unfold clsB
  rw [decide_eq_false_iff_not]
  induction op using incL.induct with
  | case1 => decide
  | case2 x => simp [incL]
  | case3 x y r ih =>
    intro h
    apply ih
    rw [incL] at h
    have hne : incL (y :: r) ≠ [] := by cases r <;> simp [incL]
    rw [List.getLast?_cons] at h
    cases hg : (incL (y :: r)).getLast? with
    | none => rw [List.getLast?_eq_none_iff] at hg; exact absurd hg hne
    | some z => rw [hg] at h; simpa using h
theorem dec_inc : ∀ (op : List Nat), decO (incL op) = op
  | [] => rfl
  | [x] => rfl
  | x :: y :: r => by
    have ih := dec_inc (y :: r)
    rw [incL]
    cases h : incL (y :: r) with
    | nil => rw [h] at ih; cases ih
    | cons a b => rw [decO, ← h, ih]
/-- in brackets -/
theorem lx_paren {X : List UInt8} {T : KL} (h : Lx (FsP nnP) X T) : Lx An ([40] ++ (X ++ [41])) ((10, [40]) :: (T ++ [(10, [41])])) := by
  intro l p op r hl _
  have hl1 : l.drop p = [40] ++ (X ++ ([41] ++ r)) := by rw [hl]; simp
  have hl2 : l.drop (p + 1) = X ++ ([41] ++ r) := (drop_lt hl1).2.2
  have hl3 : l.drop (p + 1 + X.length) = [41] ++ r := by rw [← List.drop_drop, hl2, List.drop_left' rfl]
  have h1 := sc_mark (op := op) (m := []) hl1 (by decide) (by decide) (.inl (by decide)) (by decide) (by decide) (.inl (by decide)) (by decide) (by decide) (mk3_one 40 (by decide) _)
  have h2 := h l (p + 1) (incL op) ([41] ++ r) hl2 (fs_cons (by decide))
  have h3 := sc_mark (op := incL op) (m := []) hl3 (by decide) (by decide) (.inl (by decide)) (by decide) (by decide) (.inr (inc_cls op)) (by decide) (by decide) (mk3_one 41 (by decide) _)
  have e1 : openW ⟨10, p, p + ([40] : List UInt8).length, [40], 0⟩ op = incL op := rfl
  have e2 : openW ⟨10, p + 1 + X.length, p + 1 + X.length + ([41] : List UInt8).length, [41], 0⟩ (incL op) = op := dec_inc op
  rw [e1] at h1
  rw [e2] at h3
  have := (h1.trans h2).trans h3
  rw [show p + ([40] ++ (X ++ [41]) : List UInt8).length = p + 1 + X.length + 1 by simp; omega]
  exact this
end Go.Proofs.YtdjleoglphgdgaaGreatDoor
namespace Go.Proofs.YtdjleoglphgdgaaGreatDoor
open Go.RowKit
set_option linter.unusedVariables false
set_option linter.unusedSimpArgs false

theorem cut_inB {l : List UInt8} {p : Nat} : ∀ c ∈ nameW l p, inB c = true := by
  intro c hc
  unfold nameW at hc
  split at hc
  · next h =>
    obtain ⟨j, hj, rfl⟩ := List.getElem_of_mem hc
    have hge := bhP_ge inB (l := l) (p := p) (by omega)
    have hcl : (cut l p (bhP inB l p)).length = bhP inB l p - p := by unfold cut; simp; omega
    rw [hcl] at hj
    have e : (cut l p (bhP inB l p))[j]'(by rw [hcl]; exact hj) = l.getD (p + j) 0 := by
      unfold cut
      rw [List.getElem_take, List.getElem_drop, List.getD, List.getElem?_eq_getElem (by omega)]
      rfl
    rw [e]
    exact bhP_in _ p (p + j) (Nat.le_refl _) (by omega) (by omega) (by omega)
  · cases hc
/-- a name: its first letter, its others -/
theorem named_open {x : List UInt8} (h : namedB x = true) : ∃ c u, x = c :: u ∧ leB c = true ∧ ∀ d ∈ x, inB d = true := by
  unfold namedB at h
  rw [decide_eq_true_iff] at h
  obtain ⟨h1, h2⟩ := h
  have h3 := cut_inB (l := x) (p := 0)
  rw [h2] at h3
  cases x with
  | nil => exact absurd rfl h1
  | cons c u =>
    refine ⟨c, u, rfl, ?_, h3⟩
    by_cases h4 : 0 < (c :: u).length ∧ leB ((c :: u).getD 0 0) = true
    · exact h4.2
    · unfold nameW at h2
      rw [if_neg h4] at h2
      cases h2
theorem name_at {l x r : List UInt8} {p : Nat} (hx : namedB x = true) (hl : l.drop p = x ++ r) (hr : FsP nbP r) : nameW l p = x := by
  obtain ⟨c, u, rfl, h1, h2⟩ := named_open hx
  obtain ⟨e1, e2, e3⟩ := drop_lt (show l.drop p = c :: (u ++ r) from hl)
  unfold nameW
  rw [if_pos ⟨e1, by rw [e2]; exact h1⟩, run_stop (by omega) hl h2 fun d v e => by have := hr d v e; unfold nbP at this; simpa using this, cut_x hl]
theorem le_chr {c : UInt8} (h : leB c = true) : blB c = false ∧ c.toNat ≠ 35 ∧ c.toNat ≠ 36 ∧ c.toNat ≠ 46 ∧ c ≠ 61 := by
  unfold leB at h
  rw [decide_eq_true_iff] at h
  refine ⟨?_, by omega, by omega, by omega, fun e => by rw [e] at h; revert h; decide⟩
  unfold blB
  rw [decide_eq_false_iff_not]
  omega
theorem lx_name {x : List UInt8} (hx : namedB x = true) : Lx (FsP nbP) x [(if ownB x = true then 2 else 1, x)] := by
  intro l p op r hl hr
  obtain ⟨c, u, e0, h1, h2⟩ := named_open hx
  have hl2 : l.drop p = c :: (u ++ r) := by rw [hl, e0]; rfl
  obtain ⟨e1, e2, e3⟩ := drop_lt hl2
  have hn := name_at hx hl hr
  have ht : tokW l op p = ⟨if ownB x = true then 2 else 1, p, p + x.length, x, 0⟩ := by
    unfold tokW
    rw [if_pos (by rw [e2]; exact h1)]
    unfold nameT
    rw [hn]
  obtain ⟨c1, c2, _⟩ := le_chr h1
  have := Sc.tok (op := op) e1 (by rw [e2]; exact c1) (by rw [e2]; exact c2) ht rfl
  have ho : openW ⟨if ownB x = true then 2 else 1, p, p + x.length, x, 0⟩ op = op := by
    unfold openW
    cases ownB x <;> rfl
  rw [ho] at this
  exact this
theorem lx_plain {x : List UInt8} (hx : plainW x = true) : Lx (FsP nbP) x [(1, x)] := by
  unfold plainW at hx
  rw [Bool.and_eq_true, Bool.not_eq_true'] at hx
  have := lx_name hx.1
  rw [hx.2, if_neg (by decide)] at this
  exact this
theorem lx_own {x : List UInt8} (hx : x ∈ ownL) : Lx (FsP nbP) x [(2, x)] := by
  have h1 : ∀ y ∈ ownL, namedB y = true ∧ ownB y = true := by decide
  have := lx_name (h1 x hx).1
  rw [(h1 x hx).2, if_pos rfl] at this
  exact this
theorem lx_ownsp {x : List UInt8} (hx : x ∈ ownL) : Lx An (x ++ [32]) [(2, x)] := (lx_own hx).app lx_sp fun r _ => fs_cons (by decide)
theorem lx_field {x : List UInt8} (hx : namedB x = true) : Lx (FsP nbP) (46 :: x) [(4, x)] := by
  intro l p op r hl hr
  obtain ⟨e1, e2, e3⟩ := drop_lt (show l.drop p = 46 :: (x ++ r) from hl)
  have hn := name_at hx e3 hr
  have hne : x ≠ [] := by obtain ⟨c, u, rfl, _⟩ := named_open hx; exact List.cons_ne_nil _ _
  have ht : tokW l op p = ⟨4, p, p + 1 + x.length, x, 0⟩ := by
    unfold tokW
    rw [e2, if_neg (by decide), if_neg (by decide), if_pos ⟨by decide, by rw [hn]; exact hne⟩]
    unfold fieldT
    rw [hn]
  have := Sc.tok (op := op) e1 (by rw [e2]; decide) (by rw [e2]; decide) ht rfl
  rw [show p + (46 :: x).length = p + 1 + x.length by rw [List.length_cons]; omega]
  exact this
theorem lx_var {x : List UInt8} (hx : plainW x = true) : Lx (FsP nbP) (36 :: x) [(3, x)] := by
  intro l p op r hl hr
  obtain ⟨e1, e2, e3⟩ := drop_lt (show l.drop p = 36 :: (x ++ r) from hl)
  have hnm : namedB x = true := by unfold plainW at hx; rw [Bool.and_eq_true] at hx; exact hx.1
  have hn := name_at hnm e3 hr
  have ht : tokW l op p = ⟨3, p, p + 1 + x.length, x, 0⟩ := by
    unfold tokW
    rw [e2, if_neg (by decide), if_pos (by decide)]
    unfold varT
    rw [hn, if_pos hx]
  have := Sc.tok (op := op) e1 (by rw [e2]; decide) (by rw [e2]; decide) ht rfl
  rw [show p + (36 :: x).length = p + 1 + x.length by rw [List.length_cons]; omega]
  exact this
theorem dg_chr {c : UInt8} (h : dgB c = true) : leB c = false ∧ blB c = false ∧ c.toNat ≠ 35 ∧ c.toNat ≠ 36 ∧ c.toNat ≠ 46 ∧ c ≠ 61 ∧ nuB c = true := by
  have h2 := h
  unfold dgB at h
  rw [decide_eq_true_iff] at h
  refine ⟨?_, ?_, by omega, by omega, by omega, fun e => by rw [e] at h; revert h; decide, ?_⟩
  · unfold leB
    rw [decide_eq_false_iff_not]
    omega
  · unfold blB
    rw [decide_eq_false_iff_not]
    omega
  · unfold nuB inB
    rw [h2, Bool.or_true]; rfl
theorem lx_num {x : List UInt8} (hx : Pl.formed x = true) (hd : ∀ c ∈ x, dgB c = true) (hne : x ≠ []) : Lx (FsP nnP) x [(5, x)] := by
  intro l p op r hl hr
  cases x with
  | nil => exact absurd rfl hne
  | cons c u =>
    have hl2 : l.drop p = c :: (u ++ r) := hl
    obtain ⟨e1, e2, e3⟩ := drop_lt hl2
    have h1 := hd c List.mem_cons_self
    obtain ⟨c1, c2, c3, c4, c5, _, _⟩ := dg_chr h1
    have hrun : bhP nuB l p = p + (c :: u).length := run_stop (by omega) hl (fun d hh => (dg_chr (hd d hh)).2.2.2.2.2.2) fun d v e => by have := hr d v e; unfold nnP at this; simpa using this
    have ht : tokW l op p = ⟨5, p, p + (c :: u).length, c :: u, 0⟩ := by
      unfold tokW
      rw [e2, c1, if_neg (by decide), if_neg c4, if_neg (by rintro ⟨h, _⟩; exact c5 h), if_pos h1]
      unfold numT16
      rw [hrun, cut_x hl, if_pos hx]
    have := Sc.tok (op := op) e1 (by rw [e2]; exact c2) (by rw [e2]; exact c3) ht rfl
    exact this
/-- pieces of texts -/
theorem qd_lowR : ∀ n, n < 128 → ((qd n).length = 2 ∧ shortL (qd n) = some n ∧ (qd n).getD 0 0 = 92 ∧ (qd n).getD 1 0 ≠ 40) ∨ ((qd n).length = 6 ∧ shortL (qd n) = none ∧ numL (qd n) = some n ∧ (qd n).getD 0 0 = 92 ∧ (qd n).getD 1 0 ≠ 40) ∨ (qd n = enc n ∧ 32 ≤ n ∧ n ≠ 34 ∧ n ≠ 92) := by decide +kernel
theorem qd_highR {n : Nat} (h : 128 ≤ n) : qd n = enc n := by
  unfold qd
  have hs : sgn n = none := by
    unfold sgn
    rw [if_neg (by omega), if_neg (by omega), if_neg (by omega), if_neg (by omega), if_neg (by omega), if_neg (by omega), if_neg (by omega)]
  rw [hs]
  simp only []
  rw [if_neg (by omega)]
theorem enc_first {n : Nat} (hr : isR n) (h32 : 32 ≤ n) (h34 : n ≠ 34) (h92 : n ≠ 92) : ∃ c u, enc n = c :: u ∧ 32 ≤ c.toNat ∧ c.toNat ≠ 34 ∧ c.toNat ≠ 92 := by
  by_cases h : n < 128
  · exact ⟨_, _, enc_lo h, by rw [u8_nat (by omega)]; omega, by rw [u8_nat (by omega)]; omega, by rw [u8_nat (by omega)]; omega⟩
  · have h1 := enc_hi (isR_le hr) (by omega) 0
    cases he : enc n with
    | nil =>
      have := dec_enc n hr []
      rw [he] at this
      simp [decL] at this
    | cons c u =>
      rw [he] at h1
      have h2 : 128 ≤ c.toNat := h1 (by simp)
      exact ⟨c, u, rfl, by omega, by omega, by omega⟩
theorem inw_no {l : List UInt8} {i : Nat} {c : UInt8} {u : List UInt8} (h : l.drop i = c :: u) (hc : c.toNat ≠ 92) : inwB l i = false := by
  cases hw : inwB l i with
  | false => rfl
  | true =>
    obtain ⟨r, hr⟩ := inw_iff.1 hw
    rw [h] at hr
    obtain ⟨rfl, _⟩ := List.cons.inj hr
    exact absurd rfl hc
theorem rpc_qb {l : List UInt8} {r : List UInt8} (b : Bool) : ∀ (zs : List Nat) (i f : Nat) (acc : List Nat), (∀ z ∈ zs, isR z) → l.drop i = qb zs ++ (if b = true then 34 :: r else 92 :: 40 :: r) → l.length - i < f →
    rpc l f i acc = (acc ++ zs, i + (qb zs).length + (if b = true then 1 else 2), b, 0)
  | [], i, f, acc, _, hl, hf => by
    obtain ⟨f, rfl⟩ : ∃ g, f = g + 1 := ⟨f - 1, by omega⟩
    have hl : l.drop i = (if b = true then 34 :: r else 92 :: 40 :: r) := hl
    cases b with
    | true =>
      rw [if_pos rfl] at hl
      obtain ⟨e1, e2, e3⟩ := drop_lt hl
      rw [rpc, if_pos e1, e2, if_pos (by decide), List.append_nil]
      rfl
    | false =>
      rw [if_neg (by decide)] at hl
      obtain ⟨e1, e2, e3⟩ := drop_lt hl
      rw [rpc, if_pos e1, e2, if_neg (by decide), if_pos (inw_iff.2 ⟨r, hl⟩), List.append_nil]
      rfl
  | z :: zs, i, f, acc, hz, hl, hf => by
    obtain ⟨f, rfl⟩ : ∃ g, f = g + 1 := ⟨f - 1, by omega⟩
    have hzR := hz z List.mem_cons_self
    rw [qb_cons, List.append_assoc] at hl
    have hq := (qd_len z).1
    have hi : i < l.length := by
      have := congrArg List.length hl
      rw [List.length_drop, List.length_append] at this
      omega
    have ih := fun acc => rpc_qb b zs (i + (qd z).length) f acc (fun w hw => hz w (List.mem_cons_of_mem _ hw)) (by rw [← List.drop_drop, hl, List.drop_left' rfl]) (by omega)
    have fin : (acc ++ [z] ++ zs, i + (qd z).length + (qb zs).length + (if b = true then 1 else 2), b, 0) = (acc ++ z :: zs, i + (qb (z :: zs)).length + (if b = true then 1 else 2), b, 0) := by
      rw [qb_cons, List.length_append, List.append_assoc, Nat.add_assoc i]
      rfl
    rw [← fin, ← ih]
    generalize (if b = true then 34 :: r else 92 :: 40 :: r) = y at hl
    have esc : (qd z).getD 0 0 = 92 → (qd z).getD 1 0 ≠ 40 → 2 ≤ (qd z).length → (l.getD i 0).toNat = 92 ∧ inwB l i = false := fun a1 a2 a3 => by
      have g : ∀ j, j < (qd z).length → l.getD (i + j) 0 = (qd z).getD j 0 := fun j hj => by rw [← getD_drop, hl, gd_left hj]
      have g0 := g 0 (by omega)
      have g1 := g 1 (by omega)
      rw [Nat.add_zero] at g0
      exact ⟨by rw [g0, a1]; rfl, inw_not (by rw [g1]; exact a2)⟩
    have low := qd_lowR z
    by_cases hlow : z < 128
    · rcases low hlow with ⟨h1, h2, h3, h4⟩ | ⟨h1, h2, h3, h4, h5⟩ | ⟨h1, h2, h3, h4⟩
      · obtain ⟨d1, d2⟩ := esc h3 h4 (by omega)
        have hesc : escL l i = (z, i + 2, 0) := escL_short (by rw [hl, shortL_long (by omega)]; exact h2)
        rw [rpc, if_pos hi, if_neg (by omega), d2, if_neg (by decide), if_pos d1, hesc, if_pos rfl, h1]
      · obtain ⟨d1, d2⟩ := esc h4 h5 (by omega)
        have hesc : escL l i = (z, i + 6, 0) := escL_one (by rw [hl, shortL_long (by omega)]; exact h2) (by rw [hl, numL_long (by omega)]; exact h3) (by omega)
        rw [rpc, if_pos hi, if_neg (by omega), d2, if_neg (by decide), if_pos d1, hesc, if_pos rfl, h1]
      · exact plain hzR hi hl h1 h2 h3 h4
    · exact plain hzR hi hl (qd_highR (by omega)) (by omega) (by omega) (by omega)
where
  plain {l : List UInt8} {i f z : Nat} {y acc} (hr : isR z) (hi : i < l.length) (hl : l.drop i = qd z ++ y) (h1 : qd z = enc z) (h2 : 32 ≤ z) (h3 : z ≠ 34) (h4 : z ≠ 92) : rpc l (f + 1) i acc = rpc l f (i + (qd z).length) (acc ++ [z]) := by
    rw [h1] at hl ⊢
    obtain ⟨c, u, e, c1, c2, c3⟩ := enc_first hr h2 h3 h4
    have hl2 : l.drop i = c :: (u ++ y) := by rw [hl, e]; rfl
    obtain ⟨e1, e2, e3⟩ := drop_lt hl2
    have hd := dec_enc z hr y
    have hst : strayL (enc z ++ y) = false := by
      unfold strayL
      rw [hd]
      by_cases h : z = 65533
      · subst h; rw [pre_err]; rfl
      · have : (z == 65533) = false := by rw [beq_eq_false_iff_ne]; exact h
        show ((z == 65533) && _) = false
        rw [this]; rfl
    rw [rpc, if_pos hi, e2, if_neg c2, inw_no hl2 c3, if_neg (by decide), if_neg c3, if_neg (by omega), hl, hst, if_neg (by decide), hd]
theorem pc_tok {l : List UInt8} {p a b : Nat} {zs : List Nat} {r : List UInt8} {c : UInt8} (e : Bool) (hz : ∀ z ∈ zs, isR z) (hl : l.drop p = c :: (qb zs ++ (if e = true then 34 :: r else 92 :: 40 :: r))) : pieceW l p a b = ⟨if e = true then a else b, p, p + 1 + (qb zs).length + (if e = true then 1 else 2), txt zs, 0⟩ := by
  obtain ⟨e1, e2, e3⟩ := drop_lt hl
  have h1 := rpc_qb e zs (p + 1) (l.length + 1) [] hz e3 (by omega)
  have h2 := piece_pc e1
  rw [h1] at h2
  rcases h2 with ⟨_, g2, g3, g4⟩ | ⟨g1, _⟩
  · have g2 : pcU l p = ([] ++ zs, peW l (p + 1) - p + 1, 0) := g2
    unfold pieceW
    rw [g2, List.nil_append, if_pos rfl]
    cases e with
    | true =>
      rcases g4 with ⟨_, q2, q3⟩ | ⟨q1, _⟩
      · have q2 : p + 1 + (qb zs).length + 1 = peW l (p + 1) + 1 := q2
        rw [q3, if_neg (by decide), if_pos rfl, if_pos rfl, q2]
      · cases q1
    | false =>
      rcases g4 with ⟨q1, _⟩ | ⟨_, q2, q3, _⟩
      · cases q1
      · have q2 : p + 1 + (qb zs).length + 2 = peW l (p + 1) + 2 := q2
        rw [q3, if_pos rfl, if_neg (by decide), if_neg (by decide), q2]
  · exact absurd rfl g1
theorem lx_str {zs : List Nat} (hz : ∀ z ∈ zs, isR z) : Lx An (34 :: (qb zs ++ [34])) [(6, txt zs)] := by
  intro l p op r hl _
  have hl2 : l.drop p = 34 :: (qb zs ++ (if true = true then 34 :: r else 92 :: 40 :: r)) := by rw [hl, if_pos rfl]; simp
  obtain ⟨e1, e2, e3⟩ := drop_lt hl2
  have ht : tokW l op p = ⟨6, p, p + 1 + (qb zs).length + 1, txt zs, 0⟩ := by
    unfold tokW
    rw [e2, if_neg (by decide), if_neg (by decide), if_neg (by rintro ⟨h, _⟩; revert h; decide), if_neg (by decide), if_pos (by decide), pc_tok true hz hl2]
    rfl
  have := Sc.tok (op := op) e1 (by rw [e2]; decide) (by rw [e2]; decide) ht rfl
  rw [show p + (34 :: (qb zs ++ [34])).length = p + 1 + (qb zs).length + 1 by simp; omega]
  exact this
theorem cls_app (op : List Nat) : clsB (op ++ [0]) = true := by unfold clsB; simp
/-- a text with filters in it: what begins it, goes on, ends it -/
theorem sc_begin {l : List UInt8} {p : Nat} {op : List Nat} {zs : List Nat} {r : List UInt8} (hz : ∀ z ∈ zs, isR z) (hl : l.drop p = 34 :: (qb zs ++ (92 :: 40 :: r))) : Sc l p op [(7, txt zs)] (p + 1 + (qb zs).length + 2) (op ++ [0]) := by
  obtain ⟨e1, e2, e3⟩ := drop_lt hl
  have ht : tokW l op p = ⟨7, p, p + 1 + (qb zs).length + 2, txt zs, 0⟩ := by
    unfold tokW
    rw [e2, if_neg (by decide), if_neg (by decide), if_neg (by rintro ⟨h, _⟩; revert h; decide), if_neg (by decide), if_pos (by decide), pc_tok false hz hl]
    rfl
  exact Sc.tok (op := op) e1 (by rw [e2]; decide) (by rw [e2]; decide) ht rfl
theorem sc_mid {l : List UInt8} {p : Nat} {op : List Nat} {zs : List Nat} {r : List UInt8} (hz : ∀ z ∈ zs, isR z) (hl : l.drop p = 41 :: (qb zs ++ (92 :: 40 :: r))) : Sc l p (op ++ [0]) [(8, txt zs)] (p + 1 + (qb zs).length + 2) (op ++ [0]) := by
  obtain ⟨e1, e2, e3⟩ := drop_lt hl
  have ht : tokW l (op ++ [0]) p = ⟨8, p, p + 1 + (qb zs).length + 2, txt zs, 0⟩ := by
    unfold tokW
    rw [e2, if_neg (by decide), if_neg (by decide), if_neg (by rintro ⟨h, _⟩; revert h; decide), if_neg (by decide), if_neg (by decide), if_pos ⟨by decide, cls_app op⟩, pc_tok false hz hl]
    rfl
  exact Sc.tok e1 (by rw [e2]; decide) (by rw [e2]; decide) ht rfl
theorem sc_end2 {l : List UInt8} {p : Nat} {op : List Nat} {zs : List Nat} {r : List UInt8} (hz : ∀ z ∈ zs, isR z) (hl : l.drop p = 41 :: (qb zs ++ 34 :: r)) : Sc l p (op ++ [0]) [(9, txt zs)] (p + 1 + (qb zs).length + 1) op := by
  obtain ⟨e1, e2, e3⟩ := drop_lt hl
  have ht : tokW l (op ++ [0]) p = ⟨9, p, p + 1 + (qb zs).length + 1, txt zs, 0⟩ := by
    unfold tokW
    rw [e2, if_neg (by decide), if_neg (by decide), if_neg (by rintro ⟨h, _⟩; revert h; decide), if_neg (by decide), if_neg (by decide), if_pos ⟨by decide, cls_app op⟩, pc_tok true hz hl]
    rfl
  have := Sc.tok e1 (by rw [e2]; decide) (by rw [e2]; decide) ht rfl
  have ho : openW ⟨9, p, p + 1 + (qb zs).length + 1, txt zs, 0⟩ (op ++ [0]) = op := by
    unfold openW
    rw [if_neg (show ¬ (9 : Nat) = 7 by decide), if_pos (show (9 : Nat) = 9 by rfl), List.dropLast_concat]
  rw [ho] at this
  exact this
end Go.Proofs.YtdjleoglphgdgaaGreatDoor
