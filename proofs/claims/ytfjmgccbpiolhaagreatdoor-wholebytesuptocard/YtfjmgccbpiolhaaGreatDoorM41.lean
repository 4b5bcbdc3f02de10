import Derived.Test.YtfjmgccbpiolhaaGreatDoorM38
import Derived.Recover
namespace Go.Proofs.YtfjmgccbpiolhaaGreatDoor
open Go.RowKit Go.Shelf
set_option linter.unusedVariables false
set_option linter.unusedSimpArgs false
attribute [local go_sem] Oper.semAt_some

theorem Tryz.assertFault (tt : TypeId) (v : Value) (w : World) : (Instr.typeAssert (.iface 102 v) tt 102 false).run Tryz.prog w = .ok v w := by
  kernel_rfl

set_option maxRecDepth 100000 in
theorem catch_panics (F : Nat) (er q : Nat) (y0 y1 : Value) (w : World) (hF : w.heap[F]? = some (.cells #[y0, y1] 102 (0, 0))) :
    CallsD Tryz.prog 95 #[.pointer (some ⟨F, 0, none⟩)] (.panicking (fch er q)) w fun e u' w' =>
      e = .returned (.tuple #[]) ∧ u' = .panicking [{ v := .iface 102 (.agg #[.int .i64 (er : Int), .int .i64 (q : Int)]), recovered := true }] ∧ w' = (w.setCell ⟨F, 0, none⟩ (.int .i64 (er : Int))).setCell ⟨F, 1, none⟩ (.int .i64 (q : Int)) := by
  have c0 : w.cell? ⟨F, 0, none⟩ = some y0 := by rw [cell_of_row _ _ _ _ _ _ hF]; rfl
  have c1 : w.cell? ⟨F, 1, none⟩ = some y1 := by rw [cell_of_row _ _ _ _ _ _ hF]; rfl
  have f0 : w.frozen? ⟨F, 0, none⟩ = false := frozen_rowT hF
  have f1 : w.frozen? ⟨F, 1, none⟩ = false := frozen_rowT hF
  refine callsD_of_wpS Tryz.func95 rfl fun c₀ cs hu => ?_
  unfold fch at hu
  apply wpS_seq
  apply wpS_region
  simp [wpOpsS, go_sem, recoverD, hu, Tryz.ntmps95, Exit.thenS, Array.replicate_succ]
  refine wpS_of_wp ?_
  have hta := Tryz.assertFault
  go_wp2_with fail
  simp [bodyPostS, results, Tryz.results95]

set_option maxRecDepth 100000 in
theorem catch_idle (F : Nat) (w : World) :
    CallsD Tryz.prog 95 #[.pointer (some ⟨F, 0, none⟩)] .returning w fun e u' w' => e = .returned (.tuple #[]) ∧ u' = .returning ∧ w' = w := by
  refine callsD_of_wpS Tryz.func95 rfl fun c₀ cs hu => ?_
  apply wpS_seq
  apply wpS_region
  simp [wpOpsS, go_sem, recoverD, hu, Tryz.ntmps95, Exit.thenS, Array.replicate_succ]
  refine wpS_of_wp ?_
  go_wp2_with fail
  cases c₀
  simp_all [bodyPostS, results, Tryz.results95]

def fltV (e q : Nat) : Value := .agg #[.int .i64 (e : Int), .int .i64 (q : Int)]
set_option maxRecDepth 100000 in
set_option maxHeartbeats 3200000 in
theorem w_caught_bad (fk : Nat) (rc : Value) (hent : ∀ args w, (callFunc fk args).run Tryz.prog w = .ok (.enter fk args) w) (w : World) (er q : Nat) (Pw : World → Prop)
    (HR : ∀ u, Below w.heap.size w u → u.heap.size = w.heap.size + 1 + 1 → Calls Tryz.prog fk #[rc] u fun e w' => e = .panicked (fch er q) ∧ (∀ k, w.heap.size ≤ k → k < u.heap.size → w'.heap[k]? = u.heap[k]?) ∧ u.heap.size ≤ w'.heap.size ∧ Pw w')
    (hPw : ∀ u u', Pw u → Below w.heap.size u u' → Pw u') :
    Calls Tryz.prog 48 #[.func (.func fk) #[rc] #[]] w fun e w' => e = .returned (.tuple #[v0V, .bool false, fltV er q]) ∧ Pw w' := by
  have hmf : ∀ (fn : Fn) (first cap : Array Value) (w : World), (Instr.makeFunc fn first cap).run Tryz.prog w = .ok (.func fn first cap) w := fun _ _ _ _ => rfl
  have HRd := Hid.mk HR
  have HPw := Hid.mk hPw
  clear HR hPw
  go_enter_defers Tryz.func48, Tryz.ntmps48
  go_wp2_with fail
  refine (HRd.out _ ((below1 w _).alloc (by simp) _) (by simp)).mono ?_
  rintro e w1 ⟨rfl, hk, hsz, hp⟩
  have hsz' : w.heap.size + 1 + 1 ≤ w1.heap.size := by simpa using hsz
  have qv : w1.heap[w.heap.size]? = some (.cells #[.int .i64 0, .string ⟨#[]⟩, .string ⟨#[]⟩, .slice none 0 0, .slice none 0 0] 49 (0, 0)) := (hk _ (Nat.le_refl _) (by simp; omega)).trans ((Below.heap_alloc _ _ _ (by simp)).trans (heap_alloc_new w _))
  have qf : w1.heap[w.heap.size + 1]? = some (.cells #[.int .i64 0, .int .i64 0] 102 (0, 0)) := by
    refine (hk _ (by omega) (by simp)).trans ?_
    have := heap_alloc_new (w.alloc (.cells #[.int .i64 0, .string ⟨#[]⟩, .string ⟨#[]⟩, .slice none 0 0, .slice none 0 0] 49)) (.cells #[.int .i64 0, .int .i64 0] 102)
    rwa [World.size_alloc] at this
  refine leaves_cons (f := 95) (args := #[.pointer (some ⟨w.heap.size + 1, 0, none⟩)]) (by simp) (by simp [go_sem]) ?_
  refine (catch_panics (w.heap.size + 1) er q _ _ w1 qf).mono ?_
  rintro e u' w2 ⟨rfl, rfl, hw2⟩
  have qf2 : w2.heap[w.heap.size + 1]? = some (.cells #[.int .i64 (er : Int), .int .i64 (q : Int)] 102 (0, 0)) := by rw [hw2]; exact rset (i := 1) _ (rset (i := 0) _ qf)
  have qv2 : w2.heap[w.heap.size]? = some (.cells #[.int .i64 0, .string ⟨#[]⟩, .string ⟨#[]⟩, .slice none 0 0, .slice none 0 0] 49 (0, 0)) := by
    rw [hw2, Below.heap_setCell _ _ _ _ (by show w.heap.size ≠ w.heap.size + 1; omega), Below.heap_setCell _ _ _ _ (by show w.heap.size ≠ w.heap.size + 1; omega)]; exact qv
  have hp2 : Pw w2 := HPw.out _ _ hp (by rw [hw2]; exact ((Below.refl _ w1).setCell (p := ⟨w.heap.size + 1, 0, none⟩) (by show w.heap.size ≤ w.heap.size + 1; omega) _).setCell (p := ⟨w.heap.size + 1, 1, none⟩) (by show w.heap.size ≤ w.heap.size + 1; omega) _)
  clear hw2
  obtain ⟨d0, d1, d2, d3, d4, _⟩ := vbox_cells qv2
  have b0 : w2.cell? ⟨w.heap.size + 1, 0, none⟩ = some (.int .i64 (er : Int)) := by rw [cell_of_row _ _ _ _ _ _ qf2]; rfl
  have b1 : w2.cell? ⟨w.heap.size + 1, 1, none⟩ = some (.int .i64 (q : Int)) := by rw [cell_of_row _ _ _ _ _ _ qf2]; rfl
  simp [Leaves, settle, results, Tryz.results48, go_sem, d0, d1, d2, d3, d4, b0, b1]
  exact ⟨⟨rfl, rfl⟩, hp2⟩

theorem setC_os (w : World) (a : Addr) (v : Value) : (w.setCell a v).os = w.os := rfl
theorem setC_tape (w : World) (a : Addr) (v : Value) : (w.setCell a v).tape = w.tape := rfl
theorem setC_output (w : World) (a : Addr) (v : Value) : (w.setCell a v).output = w.output := rfl
theorem caught_chain (w1 : World) (B : Nat) (t t' : TypeId) (y0 y1 y2 y3 y4 z0 z1 a0 a1 a2 a3 a4 c0 c1 : Value) (qv : w1.heap[B]? = some (.cells #[y0, y1, y2, y3, y4] t (0, 0))) (qf : w1.heap[B + 1]? = some (.cells #[z0, z1] t' (0, 0))) (wz : World)
    (hz : wz = (((((((((((w1.setCell ⟨B, 0, none⟩ a0).setCell ⟨B, 1, none⟩ a1).setCell ⟨B, 2, none⟩ a2).setCell ⟨B, 3, none⟩ a3).setCell ⟨B, 4, none⟩ a4).setCell ⟨B, 0, none⟩ a0).setCell ⟨B, 1, none⟩ a1).setCell ⟨B, 2, none⟩ a2).setCell ⟨B, 3, none⟩ a3).setCell ⟨B, 4, none⟩ a4).setCell ⟨B + 1, 0, none⟩ c0).setCell ⟨B + 1, 1, none⟩ c1) :
    wz.heap[B]? = some (.cells #[a0, a1, a2, a3, a4] t (0, 0)) ∧ wz.heap[B + 1]? = some (.cells #[c0, c1] t' (0, 0)) ∧ (∀ k, k ≠ B → k ≠ B + 1 → wz.heap[k]? = w1.heap[k]?) ∧ w1.heap.size = wz.heap.size ∧ wz.os = w1.os ∧ wz.tape = w1.tape ∧ wz.output = w1.output := by
  obtain ⟨Wa, hWa⟩ : ∃ Wa, Wa = ((((w1.setCell ⟨B, 0, none⟩ a0).setCell ⟨B, 1, none⟩ a1).setCell ⟨B, 2, none⟩ a2).setCell ⟨B, 3, none⟩ a3).setCell ⟨B, 4, none⟩ a4 := ⟨_, rfl⟩
  rw [← hWa] at hz
  obtain ⟨e1, k1, s1⟩ := rbox_set5 w1 _ _ _ _ _ _ _ _ _ _ _ _ qv Wa hWa
  obtain ⟨Wb, hWb⟩ : ∃ Wb, Wb = ((((Wa.setCell ⟨B, 0, none⟩ a0).setCell ⟨B, 1, none⟩ a1).setCell ⟨B, 2, none⟩ a2).setCell ⟨B, 3, none⟩ a3).setCell ⟨B, 4, none⟩ a4 := ⟨_, rfl⟩
  rw [← hWb] at hz
  obtain ⟨e2, k2, s2⟩ := rbox_set5 Wa _ _ _ _ _ _ _ _ _ _ _ _ e1 Wb hWb
  have qb : Wb.heap[B + 1]? = some (.cells #[z0, z1] t' (0, 0)) := (k2 _ (by omega)).trans ((k1 _ (by omega)).trans qf)
  have oo : Wb.os = w1.os ∧ Wb.tape = w1.tape ∧ Wb.output = w1.output := by rw [hWb, hWa]; simp only [setC_os, setC_tape, setC_output, and_self]
  have kz : ∀ k, k ≠ B + 1 → wz.heap[k]? = Wb.heap[k]? := fun k hk => by rw [hz, Below.heap_setCell _ _ _ _ hk, Below.heap_setCell _ _ _ _ hk]
  refine ⟨(kz _ (by omega)).trans e2, by rw [hz]; exact rset (i := 1) _ (rset (i := 0) _ qb), fun k h1 h2 => (kz k h2).trans ((k2 k h1).trans (k1 k h1)), ?_, ?_, ?_, ?_⟩
  · rw [hz]; simp; omega
  · rw [hz, setC_os, setC_os]; exact oo.1
  · rw [hz, setC_tape, setC_tape]; exact oo.2.1
  · rw [hz, setC_output, setC_output]; exact oo.2.2

set_option maxRecDepth 100000 in
set_option maxHeartbeats 3200000 in
theorem w_caught_ok (fk : Nat) (rc : Value) (hent : ∀ args w, (callFunc fk args).run Tryz.prog w = .ok (.enter fk args) w) (w : World) (Pw : World → Value → Bool → Prop)
    (HR : ∀ u, Below w.heap.size w u → u.heap.size = w.heap.size + 1 + 1 → Calls Tryz.prog fk #[rc] u fun e w' => (∃ kd nm tx io N ic ko K kc b, e = .returned (.tuple #[.agg #[.int .i64 kd, .string nm, .string tx, .slice io N ic, .slice ko K kc], .bool b]) ∧ Pw w' (.agg #[.int .i64 kd, .string nm, .string tx, .slice io N ic, .slice ko K kc]) b) ∧ (∀ k, w.heap.size ≤ k → k < u.heap.size → w'.heap[k]? = u.heap[k]?) ∧ u.heap.size ≤ w'.heap.size)
    (hPw : ∀ u u' v b, Pw u v b → u.heap.size = u'.heap.size → (∀ k, k ≠ w.heap.size → k ≠ w.heap.size + 1 → u'.heap[k]? = u.heap[k]?) → u'.os = u.os → u'.tape = u.tape → u'.output = u.output → Pw u' v b) :
    Calls Tryz.prog 48 #[.func (.func fk) #[rc] #[]] w fun e w' => ∃ v b, e = .returned (.tuple #[v, .bool b, fltV 0 0]) ∧ Pw w' v b := by
  have hmf : ∀ (fn : Fn) (first cap : Array Value) (w : World), (Instr.makeFunc fn first cap).run Tryz.prog w = .ok (.func fn first cap) w := fun _ _ _ _ => rfl
  have HRd := Hid.mk HR
  have HPw := Hid.mk hPw
  clear HR hPw
  go_enter_defers Tryz.func48, Tryz.ntmps48
  go_wp2_with fail
  refine (HRd.out _ ((below1 w _).alloc (by simp) _) (by simp)).mono ?_
  rintro e w1 ⟨⟨kd, nm, tx, io, N, ic, ko, K, kc, b, rfl, hp⟩, hk, hsz⟩
  have hsz' : w.heap.size + 1 + 1 ≤ w1.heap.size := by simpa using hsz
  have qv : w1.heap[w.heap.size]? = some (.cells #[.int .i64 0, .string ⟨#[]⟩, .string ⟨#[]⟩, .slice none 0 0, .slice none 0 0] 49 (0, 0)) := (hk _ (Nat.le_refl _) (by simp; omega)).trans ((Below.heap_alloc _ _ _ (by simp)).trans (heap_alloc_new w _))
  have qf : w1.heap[w.heap.size + 1]? = some (.cells #[.int .i64 0, .int .i64 0] 102 (0, 0)) := by
    refine (hk _ (by omega) (by simp)).trans ?_
    have := heap_alloc_new (w.alloc (.cells #[.int .i64 0, .string ⟨#[]⟩, .string ⟨#[]⟩, .slice none 0 0, .slice none 0 0] 49)) (.cells #[.int .i64 0, .int .i64 0] 102)
    rwa [World.size_alloc] at this
  obtain ⟨t0, t1, t2, t3, t4, f0, f1, f2, f3, f4⟩ := vbox_cells qv
  have b0 : w1.cell? ⟨w.heap.size + 1, 0, none⟩ = some (.int .i64 0) := by rw [cell_of_row _ _ _ _ _ _ qf]; rfl
  have b1 : w1.cell? ⟨w.heap.size + 1, 1, none⟩ = some (.int .i64 0) := by rw [cell_of_row _ _ _ _ _ _ qf]; rfl
  have g0 : w1.frozen? ⟨w.heap.size + 1, 0, none⟩ = false := frozen_rowT qf
  have g1 : w1.frozen? ⟨w.heap.size + 1, 1, none⟩ = false := frozen_rowT qf
  have HQ := Hid.mk (And.intro qv (And.intro qf (And.intro hp hsz')))
  clear hk hsz hsz' qv qf hp
  go_wp2_with fail
  obtain ⟨qv, qf, hp, hsz'⟩ := HQ.out
  generalize hz : (((((((((((w1.setCell ⟨w.heap.size, 0, none⟩ (.int .i64 kd)).setCell ⟨w.heap.size, 1, none⟩ (.string nm)).setCell ⟨w.heap.size, 2, none⟩ (.string tx)).setCell ⟨w.heap.size, 3, none⟩ (.slice io N ic)).setCell ⟨w.heap.size, 4, none⟩ (.slice ko K kc)).setCell ⟨w.heap.size, 0, none⟩ (.int .i64 kd)).setCell ⟨w.heap.size, 1, none⟩ (.string nm)).setCell ⟨w.heap.size, 2, none⟩ (.string tx)).setCell ⟨w.heap.size, 3, none⟩ (.slice io N ic)).setCell ⟨w.heap.size, 4, none⟩ (.slice ko K kc)).setCell ⟨w.heap.size + 1, 0, none⟩ (.int .i64 0)).setCell ⟨w.heap.size + 1, 1, none⟩ (.int .i64 0) = wz
  obtain ⟨ev, ef, kz, sz, oz, tz, uz⟩ := caught_chain w1 w.heap.size _ _ _ _ _ _ _ _ _ _ _ _ _ _ _ _ qv qf wz hz.symm
  have hp2 := HPw.out _ _ _ _ hp sz kz oz tz uz
  refine leaves_cons (f := 95) (args := #[.pointer (some ⟨w.heap.size + 1, 0, none⟩)]) (by simp) (by simp [go_sem]) ?_
  refine (catch_idle (w.heap.size + 1) wz).mono ?_
  rintro e u' w2 ⟨rfl, rfl, rfl⟩
  clear hz
  obtain ⟨d0, d1, d2, d3, d4, _⟩ := vbox_cells ev
  have r0 : w2.cell? ⟨w.heap.size + 1, 0, none⟩ = some (.int .i64 0) := by rw [cell_of_row _ _ _ _ _ _ ef]; rfl
  have r1 : w2.cell? ⟨w.heap.size + 1, 1, none⟩ = some (.int .i64 0) := by rw [cell_of_row _ _ _ _ _ _ ef]; rfl
  simp [Leaves, settle, results, Tryz.results48, go_sem, d0, d1, d2, d3, d4, r0, r1]
  cases b with
  | false => exact ⟨_, .inl ⟨⟨rfl, rfl, rfl⟩, hp2⟩⟩
  | true => exact ⟨_, .inr ⟨⟨rfl, rfl, rfl⟩, hp2⟩⟩
end Go.Proofs.YtfjmgccbpiolhaaGreatDoor
namespace Go.Proofs.YtfjmgccbpiolhaaGreatDoor
open Go.RowKit Go.Shelf
set_option linter.unusedVariables false
set_option linter.unusedSimpArgs false
attribute [local go_sem] Oper.semAt_some

def OneR (h : Nat) (w : World) (r : Rd VT) (e : Ending) (w' : World) : Prop := Below w.heap.size w w' ∧
  match r with
  | .ok T _ => ∃ v, e = .returned (.tuple #[v, .int .i64 0, .int .i64 0]) ∧ InF w.heap.size w' (h + 1) T v
  | .bad er q => e = .returned (.tuple #[v0V, .int .i64 (er : Int), .int .i64 (q : Int)])

def CauR (I : Nat) (s : ByteArray) (h : Nat) (u : World) (r : Rd VT) (e : Ending) (w' : World) : Prop := But I u w' ∧
  match r with
  | .ok T q => (∃ v, e = .returned (.tuple #[v, .bool true, fltV 0 0]) ∧ InF u.heap.size w' (h + 1) T v) ∧ InAt w' I s q
  | .bad er q => e = .returned (.tuple #[v0V, .bool false, fltV er q])
theorem w_caught_only (s : ByteArray) (ss : s.size ≤ 1073741824) (I p h : Nat) (hp : p ≤ s.size) (vl : Tok → Nat → Rd VT) (HV : ValOk s I h vl) (hvl : ∀ t p T q, p ≤ s.size → vl t p = .ok T q → q ≤ s.size) (htx : ∀ p t q, mustL s.data.toList p = .ok t q → t.text.length ≤ 140737488355328) (w : World) (hI : InAt w I s p) (hE : ErrIn w) (gI : I ≠ 4) :
    Calls Tryz.prog 48 #[.func (.func 49) #[.pointer (some ⟨I, 0, none⟩)] #[]] w fun e w' => CauR I s h w (onlL s.data.toList vl p) e w' := by
  have hent := enters_of Tryz.func49 (by kernel_rfl) rfl
  have hIl := hI.lt
  have HO := fun u (hb : Below w.heap.size w u) => w_only s ss I p h hp vl HV hvl htx u (hI.keep hb) (hE.keep hb) gI
  cases hr : onlL s.data.toList vl p with
  | bad er q =>
    rw [hr] at HO
    refine (w_caught_bad _ (.pointer (some ⟨I, 0, none⟩)) hent w er q (fun w' => But I w w') (fun u hb hu => (HO u hb).mono ?_) (fun u u' hp hb => hp.step (Nat.le_refl _) hb)).mono ?_
    · rintro e w' ⟨hbut, he⟩
      exact ⟨he, fun k h1 h2 => hbut.block k h2 (by omega), hbut.size, (But.of hb).trans hbut⟩
    · rintro e w' ⟨rfl, hb⟩
      exact ⟨hb, rfl⟩
  | ok T q =>
    rw [hr] at HO
    refine (w_caught_ok _ (.pointer (some ⟨I, 0, none⟩)) hent w (fun w' v b => But I w w' ∧ b = true ∧ InF (w.heap.size + 1 + 1) w' (h + 1) T v ∧ InAt w' I s q) (fun u hb hu => (HO u hb).mono ?_) ?_).mono ?_
    · rintro e w' ⟨hbut, ⟨v, rfl, x, rfl, hF⟩, hin⟩
      rw [hu] at hF
      have hF2 := hF
      obtain ⟨io, icap, ko, kcap, hv, _⟩ := hF2
      subst hv
      exact ⟨⟨_, _, _, _, _, _, _, _, _, true, rfl, (But.of hb).trans hbut, rfl, hF, hin⟩, fun k h1 h2 => hbut.block k h2 (by omega), hbut.size⟩
    · rintro u u' v b ⟨h1, h2, h3, h4⟩ hs hk ho ht hu
      refine ⟨⟨ho.trans h1.os, ht.trans h1.tape, hu.trans h1.output, by rw [← hs]; exact h1.size, fun k hk1 hk2 => (hk k (by omega) (by omega)).trans (h1.block k hk1 hk2)⟩, h2, InF.keepB (by omega) (fun b hb hl => hk b (by omega) (by omega)) (Nat.le_refl _) h3, (hk I (by omega) (by omega)).trans h4⟩
    · rintro e w' ⟨v, b, rfl, h1, rfl, h3, h4⟩
      exact ⟨h1, ⟨v, rfl, InF.keepB (Nat.le_refl _) (fun _ _ _ => rfl) (by omega) h3⟩, h4⟩

set_option maxRecDepth 100000 in
set_option maxHeartbeats 3200000 in
theorem w_One (s : ByteArray) (ss : s.size ≤ 1073741824) (h : Nat) (vl : Tok → Nat → Rd VT) (HV : ∀ I, I ≠ 4 → ValOk s I h vl) (hvl : ∀ t p T q, p ≤ s.size → vl t p = .ok T q → q ≤ s.size) (htx : ∀ p t q, mustL s.data.toList p = .ok t q → t.text.length ≤ 140737488355328) (w : World) (hE : ErrIn w) :
    Calls Tryz.prog 17 #[.string s] w fun e w' => OneR h w (onlL s.data.toList vl 0) e w' := by
  have hmf : ∀ (fn : Fn) (first cap : Array Value) (w : World), (Instr.makeFunc fn first cap).run Tryz.prog w = .ok (.func fn first cap) w := fun _ _ _ _ => rfl
  have HV' := Hid.mk (And.intro HV (And.intro hvl (And.intro htx hE)))
  clear HV hvl htx hE
  obtain ⟨R, hR⟩ : ∃ R, onlL s.data.toList vl 0 = R := ⟨_, rfl⟩
  rw [hR]
  have HRR := Hid.mk hR
  clear hR
  go_enter Tryz.func17, Tryz.ntmps17
  go_wp2_with fail
  obtain ⟨W0, hW0⟩ : ∃ W0, (w.alloc (.cells #[.int .i64 0, .string ⟨#[]⟩, .string ⟨#[]⟩, .slice none 0 0, .slice none 0 0] 49)).alloc (.cells #[.string s, .int .i64 0] 100) = W0 := ⟨_, rfl⟩
  rw [hW0]
  have hz0 : W0.heap.size = w.heap.size + 1 + 1 := by rw [← hW0]; simp
  have hb0 : Below w.heap.size w W0 := by rw [← hW0]; exact (below1 w _).alloc (by simp) _
  have q0 : W0.heap[w.heap.size]? = some (.cells #[.int .i64 0, .string ⟨#[]⟩, .string ⟨#[]⟩, .slice none 0 0, .slice none 0 0] 49 (0, 0)) := by rw [← hW0]; exact (Below.heap_alloc _ _ _ (by simp)).trans (heap_alloc_new w _)
  have qI : InAt W0 (w.heap.size + 1) s 0 := by
    have := heap_alloc_new (w.alloc (.cells #[.int .i64 0, .string ⟨#[]⟩, .string ⟨#[]⟩, .slice none 0 0, .slice none 0 0] 49)) (.cells #[.string s, .int .i64 0] 100)
    rw [hW0, World.size_alloc] at this
    exact this
  obtain ⟨HV, hvl, htx, hE⟩ := HV'.out
  have gI : w.heap.size + 1 ≠ 4 := by
    obtain ⟨ev, hc, _⟩ := hE
    obtain ⟨o, ho, _⟩ := isCells_of_cell hc
    have h4 : 4 < w.heap.size := (Array.getElem?_eq_some_iff.1 ho).1
    omega
  refine (w_caught_only s ss (w.heap.size + 1) 0 h (Nat.zero_le _) vl (HV _ gI) hvl htx W0 qI (hE.keep hb0) gI).mono ?_
  clear HV hvl htx hE gI hW0
  rintro e w1 ⟨hbut, hm⟩
  have hsz := hbut.size
  have q1 := (hbut.block w.heap.size (by omega) (by omega)).trans q0
  have hbw : Below w.heap.size w w1 := hb0.trans (hbut.below (by omega) (by omega))
  obtain ⟨t0, t1, t2, t3, t4, f0, f1, f2, f3, f4⟩ := vbox_cells q1
  have hws : w.heap.size < w1.heap.size := by omega
  have hmx : Tryz.prog.follows .mixedOrders = true := by kernel_rfl
  have hR := HRR.out
  rw [hR] at hm
  have HB := Hid.mk (And.intro hbw (And.intro q1 hbut))
  clear hbut hbw q1 q0 qI hb0 hR
  have HZ := Hid.mk hz0
  have HS := Hid.mk hsz
  clear hz0 hsz
  cases R with
  | bad er q =>
    have hm' : e = .returned (.tuple #[v0V, .bool false, fltV er q]) := hm
    subst hm'
    unfold v0V fltV
    go_wp2_with fail
    go_region_with fail
    all_goals go_wp2_with fail
    all_goals
      obtain ⟨hbw, q1, hbut⟩ := HB.out
      have hz0 := HZ.out
      have hsz := HS.out
      generalize hz5 : (((((w1.setCell ⟨w.heap.size, 0, none⟩ (.int .i64 0)).setCell ⟨w.heap.size, 1, none⟩ (.string ⟨#[]⟩)).setCell ⟨w.heap.size, 2, none⟩ (.string ⟨#[]⟩)).setCell ⟨w.heap.size, 3, none⟩ (.slice none 0 0)).setCell ⟨w.heap.size, 4, none⟩ (.slice none 0 0)) = W4
      obtain ⟨e4, k4, s4⟩ := rbox_set5 w1 _ _ _ _ _ _ _ _ _ _ _ _ q1 W4 hz5.symm
      have b4 : Below w.heap.size w W4 := by rw [← hz5]; exact ((((hbw.setCell (p := ⟨w.heap.size, 0, none⟩) (Nat.le_refl _) _).setCell (p := ⟨w.heap.size, 1, none⟩) (Nat.le_refl _) _).setCell (p := ⟨w.heap.size, 2, none⟩) (Nat.le_refl _) _).setCell (p := ⟨w.heap.size, 3, none⟩) (Nat.le_refl _) _).setCell (p := ⟨w.heap.size, 4, none⟩) (Nat.le_refl _) _
      generalize hz6 : (World.alloc (World.alloc W4 _) _).drew = W5
      have k5 : ∀ b, b < W4.heap.size → W5.heap[b]? = W4.heap[b]? := fun b hb => by rw [← hz6]; exact (Below.heap_alloc _ _ _ (by simp; omega)).trans (Below.heap_alloc _ _ _ hb)
      have s5 : W4.heap.size ≤ W5.heap.size := by rw [← hz6]; show _ ≤ (World.alloc (World.alloc W4 _) _).heap.size; simp; omega
      have b5 : Below w.heap.size w W5 := by rw [← hz6]; exact ((b4.alloc (by omega) _).alloc (by simp; omega) _).drew
      obtain ⟨d0, d1, d2, d3, d4, _⟩ := vbox_cells ((k5 _ (by omega)).trans e4)
      refine bodyPost_ret (v := .tuple #[.agg #[.int .i64 0, .string ⟨#[]⟩, .string ⟨#[]⟩, .slice none 0 0, .slice none 0 0], .int .i64 (er : Int), .int .i64 (q : Int)]) (by simp [Act.put, results, Tryz.results17, go_sem, d0, d1, d2, d3, d4]) rfl ⟨b5, ?_⟩
      rfl
  | ok T q =>
    obtain ⟨⟨v, rfl, hF⟩, hin⟩ := hm
    have HF := Hid.mk hF
    obtain ⟨io, icap, ko, kcap, hv, _⟩ := hF
    subst hv
    clear hin
    unfold fltV
    go_wp2_with fail
    go_region_with fail
    all_goals go_wp2_with fail
    all_goals
      obtain ⟨hbw, q1, hbut⟩ := HB.out
      have hz0 := HZ.out
      have hsz := HS.out
      generalize hz5 : (((((w1.setCell ⟨w.heap.size, 0, none⟩ (.int .i64 T.kind)).setCell ⟨w.heap.size, 1, none⟩ (.string T.num)).setCell ⟨w.heap.size, 2, none⟩ (.string T.text)).setCell ⟨w.heap.size, 3, none⟩ (.slice io T.items.length icap)).setCell ⟨w.heap.size, 4, none⟩ (.slice ko T.keys.length kcap)) = W4
      obtain ⟨e4, k4, s4⟩ := rbox_set5 w1 _ _ _ _ _ _ _ _ _ _ _ _ q1 W4 hz5.symm
      have b4 : Below w.heap.size w W4 := by rw [← hz5]; exact ((((hbw.setCell (p := ⟨w.heap.size, 0, none⟩) (Nat.le_refl _) _).setCell (p := ⟨w.heap.size, 1, none⟩) (Nat.le_refl _) _).setCell (p := ⟨w.heap.size, 2, none⟩) (Nat.le_refl _) _).setCell (p := ⟨w.heap.size, 3, none⟩) (Nat.le_refl _) _).setCell (p := ⟨w.heap.size, 4, none⟩) (Nat.le_refl _) _
      generalize hz6 : (World.alloc (World.alloc W4 _) _).drew = W5
      have k5 : ∀ b, b < W4.heap.size → W5.heap[b]? = W4.heap[b]? := fun b hb => by rw [← hz6]; exact (Below.heap_alloc _ _ _ (by simp; omega)).trans (Below.heap_alloc _ _ _ hb)
      have s5 : W4.heap.size ≤ W5.heap.size := by rw [← hz6]; show _ ≤ (World.alloc (World.alloc W4 _) _).heap.size; simp; omega
      have b5 : Below w.heap.size w W5 := by rw [← hz6]; exact ((b4.alloc (by omega) _).alloc (by simp; omega) _).drew
      obtain ⟨d0, d1, d2, d3, d4, _⟩ := vbox_cells ((k5 _ (by omega)).trans e4)
      refine bodyPost_ret (v := .tuple #[.agg #[.int .i64 T.kind, .string T.num, .string T.text, .slice io T.items.length icap, .slice ko T.keys.length kcap], .int .i64 0, .int .i64 0]) (by simp [Act.put, results, Tryz.results17, go_sem, d0, d1, d2, d3, d4]) rfl ⟨b5, ?_⟩
      exact ⟨_, rfl, InF.keepB (by omega) (fun b hb hl => (k5 b (by omega)).trans (k4 b (by omega))) (by omega) HF.out⟩
end Go.Proofs.YtfjmgccbpiolhaaGreatDoor
namespace Go.Proofs.YtfjmgccbpiolhaaGreatDoor
open Go.RowKit Go.Shelf
set_option linter.unusedVariables false
set_option linter.unusedSimpArgs false
attribute [local go_sem] Oper.semAt_some

def CauF (I : Nat) (s : ByteArray) (h : Nat) (u : World) (r : Rd (Option VT)) (e : Ending) (w' : World) : Prop := But I u w' ∧
  match r with
  | .ok (some T) q => (∃ v, e = .returned (.tuple #[v, .bool true, fltV 0 0]) ∧ InF u.heap.size w' (h + 1) T v) ∧ InAt w' I s q
  | .ok none q => e = .returned (.tuple #[v0V, .bool false, fltV 0 0]) ∧ InAt w' I s q
  | .bad er q => e = .returned (.tuple #[v0V, .bool false, fltV er q])
theorem w_caught_following (s : ByteArray) (ss : s.size ≤ 1073741824) (I p h : Nat) (hp : p ≤ s.size) (vl : Tok → Nat → Rd VT) (HV : ValOk s I h vl) (htx : (nextT s.data.toList (behL s.data.toList p cBl)).text.length ≤ 140737488355328) (w : World) (hI : InAt w I s p) (hE : ErrIn w) (gI : I ≠ 4) :
    Calls Tryz.prog 48 #[.func (.func 104) #[.pointer (some ⟨I, 0, none⟩)] #[]] w fun e w' => CauF I s h w (folL s.data.toList vl p) e w' := by
  have hent := enters_of Tryz.func104 (by kernel_rfl) rfl
  have hIl := hI.lt
  have HO := fun u (hb : Below w.heap.size w u) => w_following s ss I p h hp vl HV htx u (hI.keep hb) (hE.keep hb) gI
  cases hr : folL s.data.toList vl p with
  | bad er q =>
    rw [hr] at HO
    refine (w_caught_bad _ (.pointer (some ⟨I, 0, none⟩)) hent w er q (fun w' => But I w w') (fun u hb hu => (HO u hb).mono ?_) (fun u u' hp hb => hp.step (Nat.le_refl _) hb)).mono ?_
    · rintro e w' ⟨hbut, he⟩
      exact ⟨he, fun k h1 h2 => hbut.block k h2 (by omega), hbut.size, (But.of hb).trans hbut⟩
    · rintro e w' ⟨rfl, hb⟩
      exact ⟨hb, rfl⟩
  | ok o q =>
    rw [hr] at HO
    cases o with
    | none =>
      refine (w_caught_ok _ (.pointer (some ⟨I, 0, none⟩)) hent w (fun w' v b => But I w w' ∧ b = false ∧ v = v0V ∧ InAt w' I s q) (fun u hb hu => (HO u hb).mono ?_) ?_).mono ?_
      · rintro e w' ⟨hbut, ⟨v, rfl, hv⟩, hin⟩
        have hv' : v = .tuple #[v0V, .bool false] := hv
        subst hv'
        exact ⟨⟨0, ⟨#[]⟩, ⟨#[]⟩, none, 0, 0, none, 0, 0, false, rfl, (But.of hb).trans hbut, rfl, rfl, hin⟩, fun k h1 h2 => hbut.block k h2 (by omega), hbut.size⟩
      · rintro u u' v b ⟨h1, h2, h3, h4⟩ hs hk ho ht hu
        exact ⟨⟨ho.trans h1.os, ht.trans h1.tape, hu.trans h1.output, by rw [← hs]; exact h1.size, fun k hk1 hk2 => (hk k (by omega) (by omega)).trans (h1.block k hk1 hk2)⟩, h2, h3, (hk I (by omega) (by omega)).trans h4⟩
      · rintro e w' ⟨v, b, rfl, h1, rfl, rfl, h4⟩
        exact ⟨h1, rfl, h4⟩
    | some T =>
      refine (w_caught_ok _ (.pointer (some ⟨I, 0, none⟩)) hent w (fun w' v b => But I w w' ∧ b = true ∧ InF (w.heap.size + 1 + 1) w' (h + 1) T v ∧ InAt w' I s q) (fun u hb hu => (HO u hb).mono ?_) ?_).mono ?_
      · rintro e w' ⟨hbut, ⟨v, rfl, x, rfl, hF⟩, hin⟩
        rw [hu] at hF
        have hF2 := hF
        obtain ⟨io, icap, ko, kcap, hv, _⟩ := hF2
        subst hv
        exact ⟨⟨_, _, _, _, _, _, _, _, _, true, rfl, (But.of hb).trans hbut, rfl, hF, hin⟩, fun k h1 h2 => hbut.block k h2 (by omega), hbut.size⟩
      · rintro u u' v b ⟨h1, h2, h3, h4⟩ hs hk ho ht hu
        refine ⟨⟨ho.trans h1.os, ht.trans h1.tape, hu.trans h1.output, by rw [← hs]; exact h1.size, fun k hk1 hk2 => (hk k (by omega) (by omega)).trans (h1.block k hk1 hk2)⟩, h2, InF.keepB (by omega) (fun b hb hl => hk b (by omega) (by omega)) (Nat.le_refl _) h3, (hk I (by omega) (by omega)).trans h4⟩
      · rintro e w' ⟨v, b, rfl, h1, rfl, h3, h4⟩
        exact ⟨h1, ⟨v, rfl, InF.keepB (Nat.le_refl _) (fun _ _ _ => rfl) (by omega) h3⟩, h4⟩
end Go.Proofs.YtfjmgccbpiolhaaGreatDoor
