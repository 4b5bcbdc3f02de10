import Derived.Test.YtaflpeajapdkdaaM31
import Derived.TacticsIn
namespace Go.Proofs.Ytaflpeajapdkdaa
open Go
set_option linter.unusedVariables false

/-! GIr's laws within a round of a range as well: none of the operations defers a call. -/
def opDefer (o : Oper) : Bool := match o.op with
  | .defer _ => true
  | _ => false
theorem semAt_of {ro : Option Nat} {ρ : Operand → Value} {o : Oper} (h : opDefer o = false) : Oper.semAt ro ρ o = execOp ρ o :=
  Oper.semAt_eq _ _ _ (fun c hc => by unfold opDefer at h; rw [hc] at h; cases h)
def noDefer (ops : Array Oper) : Bool := ops.all fun o => !opDefer o
theorem noDefer_of {ops : Array Oper} {ro : Option Nat} (h : noDefer ops = true) (j : Nat) (o : Oper) (ho : ops[j]? = some o) (ρ : Operand → Value) : Oper.semAt ro ρ o = execOp ρ o := by
  refine semAt_of ?_
  have := Array.all_eq_true'.1 h o (Array.mem_of_getElem? ho)
  simpa using this
section
variable {F : Fence} {n : Nat} {P : Program} {ops : Array Oper} {Q : Exit → Act → World → Prop} {md : Region.Mode} {k : Nat} {S : World → Prop}

theorem RdIf.opR {i : Nat} {o : Oper} {v : Value} {a : Act} (hro : ∀ (j : Nat) (o : Oper), ops[j]? = some o → ∀ ρ, Oper.semAt F.round ρ o = execOp ρ o) (hi : ops[i]? = some o) (hy : RdIf P ops S o v a) {K : Act → World → Prop} {w : World} (hS : S w) (h : K (a.put o.dst v) w) : wpOpIn F n P ops Q i K a w := by
  have hab : ∀ f, o.about P w a.eval = some f → F.fn f := fun f hf => by rw [hy.2 w] at hf; cases hf
  unfold wpOpIn
  simp only [hi]
  rcases hy.1 with ⟨hw, hv⟩ | ⟨hw, e⟩
  · rw [if_pos hw]
    unfold Oper.wpIn
    rw [hro i o hi, hv w hS]
    exact ⟨hab, h⟩
  · rw [if_neg (by rw [hw]; decide)]
    subst e
    exact ⟨hab, h⟩
theorem gPutR {j : Nat} {oi oj : Oper} {v : Value} (hro : ∀ (j : Nat) (o : Oper), ops[j]? = some o → ∀ ρ, Oper.semAt F.round ρ o = execOp ρ o) (hj : ops[j]? = some oj) (hap : oi.apart ops oj = true) (hsi : ∀ cs b, oi.op ≠ .select cs b) (hsj : ∀ cs b, oj.op ≠ .select cs b)
    (hQ : ∀ c a w, Q (.panic c) (a.put oi.dst v) w → Q (.panic c) a w) {K : Act → World → Prop} {a : Act} {w : World} (hy : RdIf P ops S oi v a) (h : wpOpIn F n P ops Q j K (a.put oi.dst v) w) :
    wpOpIn F n P ops Q j (fun a' w' => RdIf P ops S oi v a' ∧ K (a'.put oi.dst v) w') a w := by
  obtain ⟨p1, p2, p3⟩ := Oper.apart_spec hap
  have kp : ∀ (b : Act), RdIf P ops S oi v b → ∀ u, RdIf P ops S oi v (b.put oj.dst u) := fun b hb u =>
    ⟨hb.1.of_same (execOp_put oi hsi b oj.dst u p3) (wanted_put oi b oj.dst u p3), fun x => by rw [about_put oi x b oj.dst u p3]; exact hb.2 x⟩
  have kd : ∀ d, RdIf P ops S oi v { a with defers := d :: a.defers } := fun d => ⟨hy.1.of_same rfl rfl, hy.2⟩
  have pc : ∀ (b : Act) u, (b.put oj.dst u).put oi.dst v = (b.put oi.dst v).put oj.dst u := fun b u => (Act.put_comm b v u p2).symm
  unfold wpOpIn at h ⊢
  rw [hj] at h ⊢
  dsimp only at h ⊢
  rw [wanted_put oj a oi.dst v p1, about_put oj w a oi.dst v p1] at h
  by_cases hw : Region.wanted oj (yielded ops a.tmps) = true
  · rw [if_pos hw] at h ⊢
    unfold Oper.wpIn at h ⊢
    rw [about_put oj w a oi.dst v p1] at h
    obtain ⟨g1, g2⟩ := h
    refine ⟨g1, ?_⟩
    rw [hro j oj hj] at g2 ⊢
    rw [execOp_put oj hsj a oi.dst v p1] at g2
    cases hr : (execOp a.eval oj).run P w with
    | halt x w' =>
      rw [hr] at g2
      cases x with
      | panic u => exact hQ _ _ _ g2
      | _ => exact g2
    | ok x w' =>
      rw [hr] at g2
      cases x with
      | value u => exact ⟨kp a hy u, by rw [pc]; exact g2⟩
      | skip => exact ⟨kp a hy _, by rw [pc]; exact g2⟩
      | defer d =>
        refine ⟨kp _ (kd d) _, ?_⟩
        rw [pc, ← Act.put_defers]
        exact g2
      | enter f args =>
        refine ⟨g2.1, CallsIn.mono g2.2 fun e w'' he => ?_⟩
        match e, he with
        | .returned u, he => exact ⟨kp a hy u, by rw [pc]; exact he⟩
        | .panicked c, he => exact hQ _ _ _ he
        | .outgrown, he => exact he
      | row r args => exact ⟨g2.1, RowsIn.mono g2.2 fun u w'' he => ⟨kp a hy u, by rw [pc]; exact he⟩⟩
      | round l f tmps assign body =>
        refine ⟨g2.1, RoundIn.mono g2.2 fun e w'' he => ?_⟩
        match e, he with
        | .returned u, he => exact ⟨kp a hy u, by rw [pc]; exact he⟩
        | .panicked c, he => exact hQ _ _ _ he
        | .outgrown, he => exact he
      | _ => exact g2
  · rw [if_neg hw] at h ⊢
    exact ⟨h.1, kp a hy _, by rw [pc]; exact h.2⟩
theorem gFirstR {i : Nat} {oi : Oper} {v : Value} (hro : ∀ (j : Nat) (o : Oper), ops[j]? = some o → ∀ ρ, Oper.semAt F.round ρ o = execOp ρ o) (hi : ops[i]? = some oi) (hsel : ∀ (j : Nat) (o : Oper) cs b, ops[j]? = some o → o.op ≠ .select cs b) (hw : gReach md ops ops.size k i = true)
    (hQ : ∀ c a w, Q (.panic c) (a.put oi.dst v) w → Q (.panic c) a w) : ∀ (f : Nat) (listed : Array Bool) (a : Act) (w : World),
      (∀ j oj, ops[j]? = some oj → j ≠ i → listed.getD j true = false → (∀ e ∈ oj.after, Region.binds md e = true → e.on ≠ i) → oi.apart ops oj = true) →
      gClosed md ops listed → listed.getD k true = false → i ∈ Region.ready md ops listed → RdIf P ops S oi v a → S w → wpAnyG F n P md ops Q k S f (listed.setIfInBounds i true) (a.put oi.dst v) w → wpAnyG F n P md ops Q k S (f + 1) listed a w
  | f, listed, a, w, hfree, hcl, hk0, hr, hy, hS, H => by
    refine ⟨fun h0 => absurd hr (by rw [h0]; simp), fun j hj => ?_⟩
    by_cases hji : j = i
    · subst hji
      exact hy.opR hro hi hS ⟨fun _ _ => hS, H⟩
    · have hjk : j ≠ k := fun e => gWaits_not hcl hw hr (e ▸ hj)
      cases f with
      | zero =>
        have h1 := ready_mono hj hji
        rw [H.1] at h1
        cases h1
      | succ f =>
        obtain ⟨hjun, oj, hoj, hall⟩ := mem_ready.1 hj
        have hnot : ∀ e ∈ oj.after, Region.binds md e = true → e.on ≠ i := fun e he hb heq => by
          have h1 := hall e he hb
          have h0 := (mem_ready.1 hr).1
          rw [heq] at h1
          rcases Nat.lt_or_ge i listed.size with h' | h'
          · simp [h'] at h0 h1
            rw [h0] at h1
            cases h1
          · simp [Array.getElem?_eq_none h'] at h1
        have h1 := H.2 j (ready_mono hj hji)
        have h2 := gPutR hro hoj (hfree j oj hoj hji hjun hnot) (fun cs b => hsel i oi cs b hi) (fun cs b => hsel j oj cs b hoj) hQ hy h1
        have hki : i ≠ k := fun e => gWaits_not hcl hw hr (e ▸ hr)
        have hk1 : (listed.setIfInBounds i true).getD k true = false := by rw [getD_set_ne true hki]; exact hk0
        refine wpOpIn_mono (fun a' w' h3 => ⟨fun _ _ => h3.2.1 hk1 hjk, gFirstR hro hi hsel hw hQ f (listed.setIfInBounds j true) a' w' (fun m om hm hmi hun hno => ?_) (hcl.step hj) (by rw [getD_set_ne true hjk]; exact hk0) (ready_mono hr (Ne.symm hji)) h3.1 (h3.2.1 hk1 hjk) ?_⟩) h2
        · refine hfree m om hm hmi ?_ hno
          by_cases hjm : j = m
          · subst hjm; exact hjun
          · rw [getD_set_ne true hjm] at hun; exact hun
        · rw [Array.setIfInBounds_comm _ _ hji]
          exact h3.2.2
theorem wpAnyG_takeR (i : Nat) (v : Value) {oi : Oper} {f : Nat} {listed : Array Bool} {a : Act} {w : World} (hro : noDefer ops = true) (hi : ops[i]? = some oi) (hb : (Region.noSelect ops && Region.free md ops listed i && (Region.ready md ops listed).contains i && gReach md ops ops.size k i && !(listed.getD k true) && gClosedB md ops listed) = true)
    (hQ : ∀ c a w, Q (.panic c) (a.put oi.dst v) w → Q (.panic c) a w) (hy : RdIf P ops S oi v a) (hS : S w) (h : wpAnyG F n P md ops Q k S f (listed.setIfInBounds i true) (a.put oi.dst v) w) : wpAnyG F n P md ops Q k S (f + 1) listed a w := by
  simp only [Bool.and_eq_true] at hb
  exact gFirstR (noDefer_of hro) hi (Region.noSelect_spec hb.1.1.1.1.1) hb.1.1.2 hQ f listed a w (Region.free_spec hi hb.1.1.1.1.2) (gClosed_of hb.2) (by simpa using hb.1.2) (by simpa using hb.1.1.1.2) hy hS h
/-- a call that is a round of the fence's range -/
theorem wpIn_of_roundR {o : Oper} {a : Act} {w : World} {next : Act → World → Prop} {l : Nat} {fn : FuncId} {tmps : Array Value} {assign body : Code} (hro : opDefer o = false) (hn : F.depth.isSome = true → 1 ≤ n) (hab : o.about P w a.eval = none) (hx : (execOp a.eval o).run P w = .ok (.round l fn tmps assign body) w)
    (h : RoundIn F (n - 1) P l fn tmps assign body w fun e w'' => ∃ v, e = .returned v ∧ next (a.put o.dst v) w'') : o.wpIn F n P a w next Q := by
  refine ⟨fun f hf => (by rw [hab] at hf; cases hf), ?_⟩
  rw [semAt_of hro, hx, Oper.uponIn_round]
  exact ⟨hn, RoundIn.mono h fun e w'' ⟨v, e1, h1⟩ => by subst e1; exact h1⟩
theorem wpIn_of_yieldR {o : Oper} {a : Act} {w : World} {next : Act → World → Prop} {l : Nat} {args : Array Value} {R : Ending → World → Prop} (hro : opDefer o = false) (hn : F.depth.isSome = true → 1 ≤ n) (hab : o.about P w a.eval = none) (hx : (execOp a.eval o).run P w = (Instr.yield l args).run P w)
    (hY : YieldAt F (n - 1) P l args w R) (h : ∀ e w', R e w' → ∃ v, e = .returned v ∧ next (a.put o.dst v) w') : o.wpIn F n P a w next Q := by
  obtain ⟨fn, tmps, assign, body, hy, hR⟩ := hY
  exact wpIn_of_roundR hro hn hab (hx.trans hy) (hR.mono h)
/-- a call of a function -/
theorem wpIn_of_enterR {o : Oper} {a : Act} {w : World} {next : Act → World → Prop} {g : FuncId} {args : Array Value} (hro : opDefer o = false) (hn : F.depth.isSome = true → 1 ≤ n) (hab : ∀ f, o.about P w a.eval = some f → F.fn f) (hx : (execOp a.eval o).run P w = .ok (.enter g args) w)
    (h : CallsIn F (n - 1) P g args w fun e w'' => ∃ v, e = .returned v ∧ next (a.put o.dst v) w'') : o.wpIn F n P a w next Q := by
  refine ⟨hab, ?_⟩
  rw [semAt_of hro, hx, Oper.uponIn_enter]
  exact ⟨hn, CallsIn.mono h fun e w'' ⟨v, e1, h1⟩ => by subst e1; exact h1⟩
theorem wpIn_of_valueR {o : Oper} {a : Act} {w : World} {next : Act → World → Prop} (v : Value) (hro : opDefer o = false) (hab : o.about P w a.eval = none) (hx : (execOp a.eval o).run P w = .ok (.value v) w) (h : next (a.put o.dst v) w) : o.wpIn F n P a w next Q := by
  refine ⟨fun f hf => (by rw [hab] at hf; cases hf), ?_⟩
  rw [semAt_of hro, hx]
  exact h
end
end Go.Proofs.Ytaflpeajapdkdaa
