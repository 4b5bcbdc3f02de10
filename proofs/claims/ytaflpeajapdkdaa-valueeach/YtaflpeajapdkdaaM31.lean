import Derived.Deep.RegionHeld
import Derived.OrdersIn
import Derived.RangeFuncSeq
import Derived.Test.YtaflpeajapdkdaaProg
namespace Go.Proofs.Ytaflpeajapdkdaa
open Go
set_option linter.unusedVariables false

/-! A region that draws its order inside a fence, whose operations read (S holds behind each of them) but for the last one (number k), a call: the operations are taken one by one, k comes last. -/
section
variable {F : Fence} {n : Nat} {P : Program} {ops : Array Oper} {Q : Exit → Act → World → Prop} {md : Region.Mode} {k : Nat} {S : World → Prop}

def wpAnyG (F : Fence) (n : Nat) (P : Program) (md : Region.Mode) (ops : Array Oper) (Q : Exit → Act → World → Prop) (k : Nat) (S : World → Prop) : Nat → Array Bool → Act → World → Prop
  | 0, listed, a, w => Region.ready md ops listed = [] ∧ Q .normal a w
  | f + 1, listed, a, w => (Region.ready md ops listed = [] → Q .normal a w) ∧
    ∀ j ∈ Region.ready md ops listed, wpOpIn F n P ops Q j (fun a' w' => (listed.getD k true = false → j ≠ k → S w') ∧ wpAnyG F n P md ops Q k S f (listed.setIfInBounds j true) a' w') a w
theorem wpAnyG.any : ∀ (f : Nat) (listed : Array Bool) (a : Act) (w : World), wpAnyG F n P md ops Q k S f listed a w → wpAnyIn F n P md ops Q f listed a w
  | 0, _, _, _, h => h
  | f + 1, _, _, _, h => ⟨h.1, fun j hj => wpOpIn_mono (fun a' w' hk => wpAnyG.any f _ a' w' hk.2) (h.2 j hj)⟩
/-- it reads, and calls nothing -/
def RdIf (P : Program) (ops : Array Oper) (S : World → Prop) (o : Oper) (v : Value) (a : Act) : Prop := YieldsIf P ops S o v a ∧ ∀ w, o.about P w a.eval = none
theorem RdIf.op {i : Nat} {o : Oper} {v : Value} {a : Act} (hro : F.round = none) (hi : ops[i]? = some o) (hy : RdIf P ops S o v a) {K : Act → World → Prop} {w : World} (hS : S w) (h : K (a.put o.dst v) w) : wpOpIn F n P ops Q i K a w := by
  have hab : ∀ f, o.about P w a.eval = some f → F.fn f := fun f hf => by rw [hy.2 w] at hf; cases hf
  unfold wpOpIn
  simp only [hi]
  rcases hy.1 with ⟨hw, hv⟩ | ⟨hw, e⟩
  · rw [if_pos hw]
    unfold Oper.wpIn
    rw [hro, Oper.semAt_none, hv w hS]
    exact ⟨hab, h⟩
  · rw [if_neg (by rw [hw]; decide)]
    subst e
    exact ⟨hab, h⟩
/-- k waits for i, by however many others -/
def gReach (md : Region.Mode) (ops : Array Oper) : Nat → Nat → Nat → Bool
  | 0, _, _ => false
  | f + 1, k, i => match ops[k]? with
    | some o => o.after.any (fun e => Region.binds md e && (e.on == i || gReach md ops f e.on i))
    | none => false
/-- what is listed has had all listed that it waits for -/
def gClosed (md : Region.Mode) (ops : Array Oper) (listed : Array Bool) : Prop := ∀ m o, ops[m]? = some o → listed.getD m false = true → ∀ e ∈ o.after, Region.binds md e = true → listed.getD e.on false = true
def gClosedB (md : Region.Mode) (ops : Array Oper) (listed : Array Bool) : Bool := (List.range ops.size).all fun m => match ops[m]? with
  | some o => !(listed.getD m false) || o.after.all (fun e => !Region.binds md e || listed.getD e.on false)
  | none => true
theorem gClosed_of {listed : Array Bool} (h : gClosedB md ops listed = true) : gClosed md ops listed := by
  intro m o ho hl e he hb
  have hm : m < ops.size := (Array.getElem?_eq_some_iff.1 ho).1
  have h1 := List.all_eq_true.1 h m (List.mem_range.2 hm)
  rw [ho] at h1
  simp only [hl, Bool.not_true, Bool.false_or] at h1
  have h2 := Array.all_eq_true'.1 h1 e he
  rw [hb] at h2
  simpa using h2
theorem gClosed.step {listed : Array Bool} {j : Nat} (h : gClosed md ops listed) (hj : j ∈ Region.ready md ops listed) : gClosed md ops (listed.setIfInBounds j true) := by
  intro m o ho hl e he hb
  by_cases hm : j = m
  · subst hm
    obtain ⟨_, o', ho', hall⟩ := mem_ready.1 hj
    rw [ho] at ho'
    cases ho'
    exact getD_set_true (hall e he hb)
  · rw [getD_set_ne false hm] at hl
    exact getD_set_true (h m o ho hl e he hb)
theorem gReach_listed {listed : Array Bool} {i : Nat} (hc : gClosed md ops listed) : ∀ (f k : Nat), gReach md ops f k i = true → (k ∈ Region.ready md ops listed ∨ listed.getD k false = true) → listed.getD i false = true
  | 0, _, h, _ => by cases h
  | f + 1, k, h, hk => by
    unfold gReach at h
    cases ho : ops[k]? with
    | none => rw [ho] at h; cases h
    | some o =>
      rw [ho] at h
      obtain ⟨e, he, hb⟩ := Array.any_eq_true'.1 h
      rw [Bool.and_eq_true, Bool.or_eq_true] at hb
      have he1 : listed.getD e.on false = true := by
        rcases hk with hk | hk
        · obtain ⟨_, o', ho', hall⟩ := mem_ready.1 hk
          rw [ho] at ho'
          cases ho'
          exact hall e he hb.1
        · exact hc k o ho hk e he hb.1
      rcases hb.2 with h1 | h1
      · have : e.on = i := by simpa using h1
        rw [← this]
        exact he1
      · exact gReach_listed hc f e.on h1 (.inr he1)
theorem gWaits_not {i : Nat} {listed : Array Bool} (hc : gClosed md ops listed) (hw : gReach md ops ops.size k i = true) (hi : i ∈ Region.ready md ops listed) : k ∉ Region.ready md ops listed := fun hk => by
  have h0 := (mem_ready.1 hi).1
  have h1 := gReach_listed hc _ _ hw (.inl hk)
  rcases Nat.lt_or_ge i listed.size with h' | h'
  · simp [h'] at h0 h1
    rw [h0] at h1
    cases h1
  · simp [Array.getElem?_eq_none h'] at h1
/-- what has been read may be put in ahead of another operation -/
theorem gPut {j : Nat} {oi oj : Oper} {v : Value} (hro : F.round = none) (hj : ops[j]? = some oj) (hap : oi.apart ops oj = true) (hsi : ∀ cs b, oi.op ≠ .select cs b) (hsj : ∀ cs b, oj.op ≠ .select cs b)
    (hQ : ∀ c a w, Q (.panic c) (a.put oi.dst v) w → Q (.panic c) a w) {K : Act → World → Prop} {a : Act} {w : World} (hy : RdIf P ops S oi v a) (h : wpOpIn F n P ops Q j K (a.put oi.dst v) w) :
    wpOpIn F n P ops Q j (fun a' w' => RdIf P ops S oi v a' ∧ K (a'.put oi.dst v) w') a w := by
  obtain ⟨p1, p2, p3⟩ := Oper.apart_spec hap
  have kp : ∀ (b : Act), RdIf P ops S oi v b → ∀ u, RdIf P ops S oi v (b.put oj.dst u) := fun b hb u =>
    ⟨hb.1.of_same (execOp_put oi hsi b oj.dst u p3) (wanted_put oi b oj.dst u p3), fun x => by rw [about_put oi x b oj.dst u p3]; exact hb.2 x⟩
  have kd : ∀ d, RdIf P ops S oi v { a with defers := d :: a.defers } := fun d => ⟨hy.1.of_same rfl rfl, hy.2⟩
  have pc : ∀ (b : Act) u, (b.put oj.dst u).put oi.dst v = (b.put oi.dst v).put oj.dst u := fun b u => (Act.put_comm b v u p2).symm
  unfold wpOpIn at h ⊢
  rw [hj] at h ⊢
  dsimp only at h ⊢
  rw [wanted_put oj a oi.dst v p1, about_put oj w a oi.dst v p1] at h
  by_cases hw : Region.wanted oj (yielded ops a.tmps) = true
  · rw [if_pos hw] at h ⊢
    unfold Oper.wpIn at h ⊢
    rw [about_put oj w a oi.dst v p1] at h
    obtain ⟨g1, g2⟩ := h
    refine ⟨g1, ?_⟩
    rw [hro, Oper.semAt_none] at g2 ⊢
    rw [execOp_put oj hsj a oi.dst v p1] at g2
    cases hr : (execOp a.eval oj).run P w with
    | halt x w' =>
      rw [hr] at g2
      cases x with
      | panic u => exact hQ _ _ _ g2
      | _ => exact g2
    | ok x w' =>
      rw [hr] at g2
      cases x with
      | value u => exact ⟨kp a hy u, by rw [pc]; exact g2⟩
      | skip => exact ⟨kp a hy _, by rw [pc]; exact g2⟩
      | defer d =>
        refine ⟨kp _ (kd d) _, ?_⟩
        rw [pc, ← Act.put_defers]
        exact g2
      | enter f args =>
        refine ⟨g2.1, CallsIn.mono g2.2 fun e w'' he => ?_⟩
        match e, he with
        | .returned u, he => exact ⟨kp a hy u, by rw [pc]; exact he⟩
        | .panicked c, he => exact hQ _ _ _ he
        | .outgrown, he => exact he
      | row r args => exact ⟨g2.1, RowsIn.mono g2.2 fun u w'' he => ⟨kp a hy u, by rw [pc]; exact he⟩⟩
      | round l f tmps assign body =>
        refine ⟨g2.1, RoundIn.mono g2.2 fun e w'' he => ?_⟩
        match e, he with
        | .returned u, he => exact ⟨kp a hy u, by rw [pc]; exact he⟩
        | .panicked c, he => exact hQ _ _ _ he
        | .outgrown, he => exact he
      | _ => exact g2
  · rw [if_neg hw] at h ⊢
    exact ⟨h.1, kp a hy _, by rw [pc]; exact h.2⟩
theorem gFirst {i : Nat} {oi : Oper} {v : Value} (hro : F.round = none) (hi : ops[i]? = some oi) (hsel : ∀ (j : Nat) (o : Oper) cs b, ops[j]? = some o → o.op ≠ .select cs b) (hw : gReach md ops ops.size k i = true)
    (hQ : ∀ c a w, Q (.panic c) (a.put oi.dst v) w → Q (.panic c) a w) : ∀ (f : Nat) (listed : Array Bool) (a : Act) (w : World),
      (∀ j oj, ops[j]? = some oj → j ≠ i → listed.getD j true = false → (∀ e ∈ oj.after, Region.binds md e = true → e.on ≠ i) → oi.apart ops oj = true) →
      gClosed md ops listed → listed.getD k true = false → i ∈ Region.ready md ops listed → RdIf P ops S oi v a → S w → wpAnyG F n P md ops Q k S f (listed.setIfInBounds i true) (a.put oi.dst v) w → wpAnyG F n P md ops Q k S (f + 1) listed a w
  | f, listed, a, w, hfree, hcl, hk0, hr, hy, hS, H => by
    refine ⟨fun h0 => absurd hr (by rw [h0]; simp), fun j hj => ?_⟩
    by_cases hji : j = i
    · subst hji
      exact hy.op hro hi hS ⟨fun _ _ => hS, H⟩
    · have hjk : j ≠ k := fun e => gWaits_not hcl hw hr (e ▸ hj)
      cases f with
      | zero =>
        have h1 := ready_mono hj hji
        rw [H.1] at h1
        cases h1
      | succ f =>
        obtain ⟨hjun, oj, hoj, hall⟩ := mem_ready.1 hj
        have hnot : ∀ e ∈ oj.after, Region.binds md e = true → e.on ≠ i := fun e he hb heq => by
          have h1 := hall e he hb
          have h0 := (mem_ready.1 hr).1
          rw [heq] at h1
          rcases Nat.lt_or_ge i listed.size with h' | h'
          · simp [h'] at h0 h1
            rw [h0] at h1
            cases h1
          · simp [Array.getElem?_eq_none h'] at h1
        have h1 := H.2 j (ready_mono hj hji)
        have h2 := gPut hro hoj (hfree j oj hoj hji hjun hnot) (fun cs b => hsel i oi cs b hi) (fun cs b => hsel j oj cs b hoj) hQ hy h1
        have hki : i ≠ k := fun e => gWaits_not hcl hw hr (e ▸ hr)
        have hk1 : (listed.setIfInBounds i true).getD k true = false := by rw [getD_set_ne true hki]; exact hk0
        refine wpOpIn_mono (fun a' w' h3 => ⟨fun _ _ => h3.2.1 hk1 hjk, gFirst hro hi hsel hw hQ f (listed.setIfInBounds j true) a' w' (fun m om hm hmi hun hno => ?_) (hcl.step hj) (by rw [getD_set_ne true hjk]; exact hk0) (ready_mono hr (Ne.symm hji)) h3.1 (h3.2.1 hk1 hjk) ?_⟩) h2
        · refine hfree m om hm hmi ?_ hno
          by_cases hjm : j = m
          · subst hjm; exact hjun
          · rw [getD_set_ne true hjm] at hun; exact hun
        · rw [Array.setIfInBounds_comm _ _ hji]
          exact h3.2.2
theorem wpAnyG_take (i : Nat) (v : Value) {oi : Oper} {f : Nat} {listed : Array Bool} {a : Act} {w : World} (hro : F.round = none) (hi : ops[i]? = some oi) (hb : (Region.noSelect ops && Region.free md ops listed i && (Region.ready md ops listed).contains i && gReach md ops ops.size k i && !(listed.getD k true) && gClosedB md ops listed) = true)
    (hQ : ∀ c a w, Q (.panic c) (a.put oi.dst v) w → Q (.panic c) a w) (hy : RdIf P ops S oi v a) (hS : S w) (h : wpAnyG F n P md ops Q k S f (listed.setIfInBounds i true) (a.put oi.dst v) w) : wpAnyG F n P md ops Q k S (f + 1) listed a w := by
  simp only [Bool.and_eq_true] at hb
  exact gFirst hro hi (Region.noSelect_spec hb.1.1.1.1.1) hb.1.1.2 hQ f listed a w (Region.free_spec hi hb.1.1.1.1.2) (gClosed_of hb.2) (by simpa using hb.1.2) (by simpa using hb.1.1.1.2) hy hS h
/-- the one operation that may come up -/
theorem wpAnyG_one {i : Nat} {o : Oper} {f : Nat} {listed : Array Bool} {a : Act} {w : World} (hr : Region.ready md ops listed = [i]) (ho : ops[i]? = some o)
    (h : ∀ K' : Act → World → Prop, (∀ a w, (listed.getD k true = false → i ≠ k → S w) → wpAnyG F n P md ops Q k S f (listed.setIfInBounds i true) a w → K' a w) → if Region.wanted o (yielded ops a.tmps) = true then Oper.wpIn F n P o a w K' Q else (∀ f, o.about P w a.eval = some f → F.fn f) ∧ K' (a.put o.dst undef) w) : wpAnyG F n P md ops Q k S (f + 1) listed a w :=
  ⟨fun h0 => absurd (hr ▸ h0) (by simp), hr ▸ fun j hj => by
    have : j = i := by simpa using hj
    subst this
    exact wpOpIn_step ho fun K' hK' => h K' (fun a w h1 h2 => hK' a w ⟨h1, h2⟩)⟩
theorem wpAnyG_done {listed : Array Bool} {a : Act} {w : World} (hr : Region.ready md ops listed = []) (h : Q .normal a w) : ∀ f, wpAnyG F n P md ops Q k S f listed a w
  | 0 => ⟨hr, h⟩
  | _ + 1 => ⟨fun _ => h, by rw [hr]; simp⟩
/-- a call that is a round of the fence's range -/
theorem wpIn_of_round {o : Oper} {a : Act} {w : World} {next : Act → World → Prop} {l : Nat} {fn : FuncId} {tmps : Array Value} {assign body : Code} (hro : F.round = none) (hn : F.depth.isSome = true → 1 ≤ n) (hab : o.about P w a.eval = none) (hx : (execOp a.eval o).run P w = .ok (.round l fn tmps assign body) w)
    (h : RoundIn F (n - 1) P l fn tmps assign body w fun e w'' => ∃ v, e = .returned v ∧ next (a.put o.dst v) w'') : o.wpIn F n P a w next Q := by
  refine ⟨fun f hf => (by rw [hab] at hf; cases hf), ?_⟩
  rw [hro, Oper.semAt_none, hx, Oper.uponIn_round]
  exact ⟨hn, RoundIn.mono h fun e w'' ⟨v, e1, h1⟩ => by subst e1; exact h1⟩
theorem wpIn_of_yield {o : Oper} {a : Act} {w : World} {next : Act → World → Prop} {l : Nat} {args : Array Value} {R : Ending → World → Prop} (hro : F.round = none) (hn : F.depth.isSome = true → 1 ≤ n) (hab : o.about P w a.eval = none) (hx : (execOp a.eval o).run P w = (Instr.yield l args).run P w)
    (hY : YieldAt F (n - 1) P l args w R) (h : ∀ e w', R e w' → ∃ v, e = .returned v ∧ next (a.put o.dst v) w') : o.wpIn F n P a w next Q := by
  obtain ⟨fn, tmps, assign, body, hy, hR⟩ := hY
  exact wpIn_of_round hro hn hab (hx.trans hy) (hR.mono h)
/-- a call of a function -/
theorem wpIn_of_enter {o : Oper} {a : Act} {w : World} {next : Act → World → Prop} {g : FuncId} {args : Array Value} (hro : F.round = none) (hn : F.depth.isSome = true → 1 ≤ n) (hab : ∀ f, o.about P w a.eval = some f → F.fn f) (hx : (execOp a.eval o).run P w = .ok (.enter g args) w)
    (h : CallsIn F (n - 1) P g args w fun e w'' => ∃ v, e = .returned v ∧ next (a.put o.dst v) w'') : o.wpIn F n P a w next Q := by
  refine ⟨hab, ?_⟩
  rw [hro, Oper.semAt_none, hx, Oper.uponIn_enter]
  exact ⟨hn, CallsIn.mono h fun e w'' ⟨v, e1, h1⟩ => by subst e1; exact h1⟩
theorem wpIn_of_value {o : Oper} {a : Act} {w : World} {next : Act → World → Prop} (v : Value) (hro : F.round = none) (hab : o.about P w a.eval = none) (hx : (execOp a.eval o).run P w = .ok (.value v) w) (h : next (a.put o.dst v) w) : o.wpIn F n P a w next Q := by
  refine ⟨fun f hf => (by rw [hab] at hf; cases hf), ?_⟩
  rw [hro, Oper.semAt_none, hx]
  exact h
theorem wpIn_region_G (k : Nat) {id : Nat} {a : Act} {w : World} (hm : P.follows .mixedOrders = true) (hS : S w.drew) (h : S w.drew → wpAnyG F n P .any ops Q k S ops.size (Array.replicate ops.size false) a w.drew) : (Code.region id ops true).wpIn F n P Q a w :=
  wpIn_region_any hm (wpAnyG.any _ _ _ _ (h hS))
end
end Go.Proofs.Ytaflpeajapdkdaa
