import Derived.Test.YtcpnodkcnblkdaaGreatDoorM38
import Derived.Test.YtcpnodkcnblkdaaGreatDoorM36
import Derived.Deep.RegionHeld3
namespace Go.Proofs.YtcpnodkcnblkdaaGreatDoor
open Go.RowKit Go.Shelf
set_option linter.unusedVariables false
set_option linter.unusedSimpArgs false
attribute [local go_sem] Oper.semAt_some

def ValD (s : ByteArray) (I H d : Nat) (vl : Tok → Nat → Rd VT) : Prop := ∀ (t : Tok) (p : Nat) (u : World), p ≤ s.size → t.text.length ≤ 140737488355328 → InAt u I s p → ErrIn u → Calls Tryz.prog 41 #[.pointer (some ⟨I, 0, none⟩), tokV t, .int .i64 (d : Int)] u fun e w' => VlR I s H u (vl t p) e w'
def ValUp (s : ByteArray) (vl : Tok → Nat → Rd VT) : Prop := ∀ (t : Tok) (p : Nat) (T : VT) (q : Nat), p ≤ s.size → vl t p = .ok T q → p ≤ q ∧ q ≤ s.size
structure ArT (O Bi Bd I lo H d : Nat) (xs : List VT) (u : World) : Prop where
  arr : ∃ k io cap c, ArC O lo H k io cap c xs u
  ci : u.cell? ⟨Bi, 0, none⟩ = some (.pointer (some ⟨I, 0, none⟩))
  cd : u.cell? ⟨Bd, 0, none⟩ = some (.int .i64 (d : Int))
theorem arr_part (s : ByteArray) (ss : s.size ≤ 1073741824) (I Bi Bd B O lo H d : Nat) (hd : d ≤ 1000) (hbi : Bi < O) (hbd : Bd < O) (ib : I < B) (bo : B ≤ O) (bo2 : I < Bi ∧ I < Bd) (vl : Tok → Nat → Rd VT) (HV : ValD s I H (d + 1) vl) (HU : ValUp s vl) :
    PartOk I B 71 #[.pointer (some ⟨O, 0, none⟩), .pointer (some ⟨Bi, 0, none⟩), .pointer (some ⟨Bd, 0, none⟩)] s (aPt vl) (fun xs p => xs.length ≤ p) (ArT O Bi Bd I lo H d) where
  up := fun x p q h1 h2 => Nat.le_trans h1 h2
  ent := enters_of Tryz.func71 (by kernel_rfl) rfl
  call := by
    rintro xs t p w ⟨⟨k, io, cap, c, hA⟩, ci, cd⟩ ⟨p0, hp0, hfit⟩ htx hI hE hp hB
    have hlen := hA.len
    have hol := hA.ol
    have hll := hA.ll
    obtain ⟨kd, pa, fi, tx, er⟩ := t
    have HVt : ∀ u, InAt u I s p → ErrIn u → Calls Tryz.prog 41 #[.pointer (some ⟨I, 0, none⟩), .agg #[.int .i64 (kd : Int), .int .i64 (pa : Int), .int .i64 (fi : Int), .string ⟨tx.toArray⟩], .int .i64 ((d : Int) + 1)] u fun e w' => VlR I s H u (vl ⟨kd, pa, fi, tx, er⟩ p) e w' := fun u h1 h2 => HV ⟨kd, pa, fi, tx, er⟩ p u hp htx h1 h2
    unfold aPt
    cases hv : vl ⟨kd, pa, fi, tx, er⟩ p with
    | bad e2 q =>
      rw [hv] at HVt
      exact (w_arr1_bad s I Bi Bd B O lo H k d p e2 q io cap c xs kd pa fi tx w hd hA ci cd hbi hbd ib bo bo2 hI hE HVt).mono (fun e w' h => ⟨h.2, h.1⟩)
    | ok T q =>
      rw [hv] at HVt
      obtain ⟨u1, u2⟩ := HU _ _ _ _ hp hv
      refine (w_arr1_ok s I Bi Bd B O lo H k d p q io cap c xs kd pa fi tx T w (by omega) hd hA ci cd hbi hbd ib bo bo2 hI hE HVt).mono ?_
      rintro e w' ⟨rfl, hbel, hin, ⟨g, cap', c', hA'⟩, ci', cd'⟩
      refine ⟨hbel, rfl, hin, ⟨⟨_, _, _, _, hA'⟩, ci', cd'⟩, u1, u2, ?_⟩
      show (xs ++ [T]).length ≤ q
      rw [List.length_append]
      show xs.length + 1 ≤ q
      omega
  keep := by
    rintro xs w w' ⟨⟨k, io, cap, c, hA⟩, ci, cd⟩ hb
    have hol := hA.ol
    have hll := hA.ll
    exact ⟨⟨k, io, cap, c, hA.but (by omega) hb⟩, (World.cell?_of_block (a := ⟨Bi, 0, none⟩) (hb.block _ (by show Bi < _; omega) (by show Bi ≠ I; omega))).trans ci, (World.cell?_of_block (a := ⟨Bd, 0, none⟩) (hb.block _ (by show Bd < _; omega) (by show Bd ≠ I; omega))).trans cd⟩
end Go.Proofs.YtcpnodkcnblkdaaGreatDoor
namespace Go.Proofs.YtcpnodkcnblkdaaGreatDoor
open Go.RowKit Go.Shelf
set_option linter.unusedVariables false
set_option linter.unusedSimpArgs false
attribute [local go_sem] Oper.semAt_some

theorem arr_done {O lo H k cap : Nat} {io : Option Addr} {c : Nat → Fin 5 → Value} {xs : List VT} {w u u' : World} (hA : ArC O lo H k io cap c xs u) (hk : k ≤ 1073741824) (hlo : w.heap.size ≤ lo) (hz : u.heap.size ≤ u'.heap.size) (hs : ∀ b, lo ≤ b → b < u.heap.size → u'.heap[b]? = u.heap[b]?) :
    InF w.heap.size u' (H + 1 + 1) (.mk 5 .empty .empty xs []) (.agg #[.int .i64 5, .string ⟨#[]⟩, .string ⟨#[]⟩, .slice io k cap, .slice none 0 0]) := by
  have hlen := hA.len
  have hle : k ≤ cap := by
    rcases hA.own.2 with ⟨h1, h2⟩ | ⟨g, c2, cur, h1, h2, h3, h4, h5, h6, h7⟩
    · simp only [Value.slice.injEq] at h1
      omega
    · simp only [Value.slice.injEq] at h1
      omega
  subst hlen
  refine ⟨io, cap, none, 0, rfl, by show ByteArray.empty.size ≤ _; decide, by show ByteArray.empty.size ≤ _; decide, by show xs.length ≤ _; omega, Nat.zero_le _, hle, Nat.le_refl _, fun k hk => (by cases hk), fun h => absurd h (by show ¬ 0 < 0; omega), fun h0 => ?_⟩
  have h0' : 0 < xs.length := h0
  rcases hA.own.2 with ⟨h1, h2⟩ | ⟨g, c2, cur, h1, h2, h3, _⟩
  · simp only [Value.slice.injEq] at h1
    omega
  · simp only [Value.slice.injEq] at h1
    obtain ⟨rfl, _, rfl⟩ := h1
    have hgl := (Array.getElem?_eq_some_iff.1 h3).1
    refine ⟨g, 0, rfl, by omega, by omega, fun i hi => ?_⟩
    have hi' : i < xs.length := hi
    have cc : ∀ j : Fin 5, u'.cell? ⟨g, i * 5 + j.1, none⟩ = some (c i j) := fun j => by
      rw [World.cell?_of_block (a := ⟨g, i * 5 + j.1, none⟩) (hs g h2 hgl), own_cellAt hA.own (by have := j.2; omega)]
      exact flat_get c _ i j hi'
    refine ⟨c i 0, c i 1, c i 2, c i 3, c i 4, ⟨by rw [Nat.zero_add]; exact cc 0, by rw [Nat.zero_add]; exact cc 1, by rw [Nat.zero_add]; exact cc 2, by rw [Nat.zero_add]; exact cc 3, by rw [Nat.zero_add]; exact cc 4⟩, ?_⟩
    exact InD.iff.1 (InD.keep hz (fun b hb hl => hs b hb.1 hl) (fun b hb _ => by have := hb.1; show w.heap.size ≤ b; omega) (hA.trees i hi'))
end Go.Proofs.YtcpnodkcnblkdaaGreatDoor
namespace Go.Proofs.YtcpnodkcnblkdaaGreatDoor
open Go.RowKit Go.Shelf
set_option linter.unusedVariables false
set_option linter.unusedSimpArgs false
attribute [local go_sem] Oper.semAt_some

set_option maxRecDepth 100000 in
set_option maxHeartbeats 3200000 in
theorem w_array (s : ByteArray) (ss : s.size ≤ 1073741824) (I H d p : Nat) (hd : d ≤ 1000) (hp : p ≤ s.size) (vl : Tok → Nat → Rd VT) (HV : ValD s I H (d + 1) vl) (HU : ValUp s vl) (hTx : ∀ p t p1, mustL s.data.toList p = .ok t p1 → t.text.length ≤ 140737488355328) (w : World) (hI : InAt w I s p) (hE : ErrIn w) (gI : I ≠ 4) :
    Calls Tryz.prog 59 #[.pointer (some ⟨I, 0, none⟩), .int .i64 (d : Int)] w fun e w' => VlR I s (H + 1) w (arrL s.data.toList vl p) e w' := by
  have gB : 4 < w.heap.size := by
    obtain ⟨ev, hc, hv⟩ := hE
    exact World.block_lt_of_cell? w _ hc
  have hIl := hI.lt
  have HRow : Hid (∀ u, ArT (w.heap.size + 1 + 1 + 1) w.heap.size (w.heap.size + 1) I (w.heap.size + 1 + 1 + 1 + 1) H d [] u → InAt u I s p → ErrIn u → w.heap.size + 1 + 1 + 1 ≤ u.heap.size → Calls Tryz.prog 70 #[.pointer (some ⟨I, 0, none⟩), .int .i64 4, .func (.func 71) #[] #[.pointer (some ⟨w.heap.size + 1 + 1 + 1, 0, none⟩), .pointer (some ⟨w.heap.size, 0, none⟩), .pointer (some ⟨w.heap.size + 1, 0, none⟩)]] u fun e w' => RowR I (w.heap.size + 1 + 1 + 1) s (fun xs p => xs.length ≤ p) (ArT (w.heap.size + 1 + 1 + 1) w.heap.size (w.heap.size + 1) I (w.heap.size + 1 + 1 + 1 + 1) H d) u (rowL s.data.toList 4 (aPt vl) [] p) e w') := fun u h1 h2 h3 h4 =>
    w_rRow s ss I (w.heap.size + 1 + 1 + 1) _ _ 4 (aPt vl) _ _ (arr_part s ss I w.heap.size (w.heap.size + 1) (w.heap.size + 1 + 1 + 1) (w.heap.size + 1 + 1 + 1) (w.heap.size + 1 + 1 + 1 + 1) H d hd (by omega) (by omega) (by omega) (Nat.le_refl _) ⟨by omega, by omega⟩ vl HV HU) [] p u h1 (Nat.zero_le _) h2 h3 hp h4 (by omega) gI hTx
  have HI := Hid.mk (And.intro hI hE)
  obtain ⟨R, hR⟩ : ∃ R, arrL s.data.toList vl p = R := ⟨_, rfl⟩
  rw [hR]
  have HRR := Hid.mk hR
  clear hR
  clear hI hE HV HU hTx
  go_enter Tryz.func59, Tryz.ntmps59
  go_wp2_with fail
  obtain ⟨W1, e1⟩ : ∃ W, w.alloc (.cells #[.pointer (some ⟨I, 0, none⟩)] 73) = W := ⟨_, rfl⟩
  rw [e1]
  obtain ⟨W2, e2⟩ : ∃ W, W1.alloc (.cells #[.int .i64 (d : Int)] 3) = W := ⟨_, rfl⟩
  rw [e2]
  obtain ⟨W3, e3⟩ : ∃ W, W2.alloc (.cells #[.int .i64 0, .string ⟨#[]⟩, .string ⟨#[]⟩, .slice none 0 0, .slice none 0 0] 25) = W := ⟨_, rfl⟩
  rw [e3]
  obtain ⟨W, e4⟩ : ∃ W, W3.alloc (.cells #[.int .i64 5, .string ⟨#[]⟩, .string ⟨#[]⟩, .slice none 0 0, .slice none 0 0] 25) = W := ⟨_, rfl⟩
  rw [e4]
  have s1 : W1.heap.size = w.heap.size + 1 := by rw [← e1]; simp
  have s2 : W2.heap.size = w.heap.size + 1 + 1 := by rw [← e2]; simp [s1]
  have s3 : W3.heap.size = w.heap.size + 1 + 1 + 1 := by rw [← e3]; simp [s2]
  have s4 : W.heap.size = w.heap.size + 1 + 1 + 1 + 1 := by rw [← e4]; simp [s3]
  have b1 : Below w.heap.size w W1 := by rw [← e1]; exact below1 _ _
  have b2 : Below W1.heap.size W1 W2 := by rw [← e2]; exact below1 _ _
  have b3 : Below W2.heap.size W2 W3 := by rw [← e3]; exact below1 _ _
  have b4 : Below W3.heap.size W3 W := by rw [← e4]; exact below1 _ _
  have n1 := heap_alloc_new w (.cells #[.pointer (some ⟨I, 0, none⟩)] 73)
  rw [e1] at n1
  have n2 := heap_alloc_new W1 (.cells #[.int .i64 (d : Int)] 3)
  rw [e2, s1] at n2
  have n3 := heap_alloc_new W2 (.cells #[.int .i64 0, .string ⟨#[]⟩, .string ⟨#[]⟩, .slice none 0 0, .slice none 0 0] 25)
  rw [e3, s2] at n3
  have n4 := heap_alloc_new W3 (.cells #[.int .i64 5, .string ⟨#[]⟩, .string ⟨#[]⟩, .slice none 0 0, .slice none 0 0] 25)
  rw [e4, s3] at n4
  have hbw : Below w.heap.size w W := ((b1.trans (b2.mono (by omega))).trans (b3.mono (by omega))).trans (b4.mono (by omega))
  have m1 := (b4.block _ (by omega)).trans ((b3.block _ (by omega)).trans ((b2.block w.heap.size (by omega)).trans n1))
  have m2 := (b4.block _ (by omega)).trans ((b3.block (w.heap.size + 1) (by omega)).trans n2)
  have m3 := (b4.block (w.heap.size + 1 + 1) (by omega)).trans n3
  refine (HRow.out W ⟨⟨0, none, 0, fun _ _ => undef, ⟨rfl, by omega, by omega, n4, World.ownsRow_nil _ _ _ _, fun i hi => absurd hi (Nat.not_lt_zero i)⟩⟩, by rw [cell_of_row _ _ _ _ _ _ m1]; rfl, by rw [cell_of_row _ _ _ _ _ _ m2]; rfl⟩ (HI.out.1.keep hbw) (HI.out.2.keep hbw) (by omega)).mono ?_
  rintro e w' ⟨hbel, hm⟩
  have hbs := hbel.size
  have hbut : But I w w' := ⟨hbel.os.trans hbw.os, hbel.tape.trans hbw.tape, hbel.output.trans hbw.output, by omega, fun k hk hn => (hbel.block k (by omega) hn).trans (hbw.block k hk)⟩
  have hR := HRR.out
  unfold arrL at hR
  cases hr : rowL s.data.toList 4 (aPt vl) [] p with
  | bad er q =>
    rw [hr] at hm hR
    have hm' : e = .panicked (fch er q) := hm
    subst hm'
    refine ⟨rfl, hbut, ?_⟩
    rw [← hR]
  | ok xs q =>
    rw [hr] at hm hR
    have HR2 := Hid.mk hR
    clear hR
    obtain ⟨rfl, hin, ⟨⟨k, io, cap, c, hA⟩, ci', cd'⟩, hfit, hq⟩ := hm
    obtain ⟨t0, t1, t2, t3, t4, f0, f1, f2, f3, f4⟩ := vbox_cells hA.box
    have q2 := (hbel.block (w.heap.size + 1 + 1) (by omega) (by omega)).trans m3
    obtain ⟨r0, r1, r2, r3, r4, g0, g1, g2, g3, g4⟩ := vbox_cells q2
    have HN := Hid.mk (And.intro hbut (And.intro hin (And.intro q2 (And.intro hA (And.intro hfit (And.intro hq hbs))))))
    have HZ := Hid.mk s4
    clear hbut hin q2 hA hfit hq hbs hbel hbw m1 m2 m3 n1 n2 n3 n4 b1 b2 b3 b4 s1 s2 s3 s4 e1 e2 e3 e4 hr ci' cd' HRow
    go_wp2_with fail
    obtain ⟨hbut, hin, q2, hA, hfit, hq, hbs⟩ := HN.out
    have hsz := HZ.out
    have hAl := hA.ll
    have hlen := hA.len
    generalize hz5 : ((((w'.setCell ⟨w.heap.size + 1 + 1, 0, none⟩ (.int .i64 5)).setCell ⟨w.heap.size + 1 + 1, 1, none⟩ (.string ⟨#[]⟩)).setCell ⟨w.heap.size + 1 + 1, 2, none⟩ (.string ⟨#[]⟩)).setCell ⟨w.heap.size + 1 + 1, 3, none⟩ (.slice io k cap)).setCell ⟨w.heap.size + 1 + 1, 4, none⟩ (.slice none 0 0) = wz
    obtain ⟨e5, k5, s5⟩ := rbox_set5 w' _ _ _ _ _ _ _ _ _ _ _ _ q2 wz hz5.symm
    have u5 : But I w wz := by rw [← hz5]; exact (((hbut.set2 _ 0 (by omega) _).set2 _ 1 (by omega) _).set2 _ 2 (by omega) _ |>.set2 _ 3 (by omega) _).set2 _ 4 (by omega) _
    obtain ⟨d0, d1, d2, d3, d4, _⟩ := vbox_cells e5
    refine bodyPost_ret (v := .agg #[.int .i64 5, .string ⟨#[]⟩, .string ⟨#[]⟩, .slice io k cap, .slice none 0 0]) (by simp [results, Tryz.results59, go_sem, d0, d1, d2, d3, d4]) rfl ?_
    rw [← HR2.out]
    exact ⟨u5, ⟨_, rfl, arr_done (w := w) hA (by omega) (by omega) (by omega) (fun b hb hl => k5 b (by omega))⟩, (k5 _ (by omega)).trans hin⟩
end Go.Proofs.YtcpnodkcnblkdaaGreatDoor
namespace Go.Proofs.YtcpnodkcnblkdaaGreatDoor
open Go.RowKit Go.Shelf
set_option linter.unusedVariables false
set_option linter.unusedSimpArgs false

theorem loopL_up {σ : Type} {l : List UInt8} {cl : Nat} {pt : σ → Tok → Nat → Rd σ} (hpt : ∀ x t p y q, p ≤ l.length → pt x t p = .ok y q → p ≤ q ∧ q ≤ l.length) : ∀ (f : Nat) (x y : σ) (p q : Nat), p ≤ l.length → loopL l cl pt f x p = .ok y q → p ≤ q ∧ q ≤ l.length := by
  intro f
  induction f with
  | zero => intro x y p q _ h; cases h
  | succ f ih =>
    intro x y p q hp h
    unfold loopL at h
    split at h
    · cases h
    · next t p1 hm =>
      obtain ⟨a1, a2⟩ := mustL_up hp hm
      split at h
      · injection h with e1 e2
        omega
      · split at h
        · split at h
          · cases h
          · next t2 p2 hm2 =>
            obtain ⟨b1, b2⟩ := mustL_up a2 hm2
            split at h
            · cases h
            · next y2 p3 hpp =>
              obtain ⟨c1, c2⟩ := hpt _ _ _ _ _ b2 hpp
              obtain ⟨d1, d2⟩ := ih _ _ _ _ c2 h
              omega
        · cases h
theorem rowL_up {σ : Type} {l : List UInt8} {cl : Nat} {pt : σ → Tok → Nat → Rd σ} (hpt : ∀ x t p y q, p ≤ l.length → pt x t p = .ok y q → p ≤ q ∧ q ≤ l.length) {x y : σ} {p q : Nat} (hp : p ≤ l.length) (h : rowL l cl pt x p = .ok y q) : p ≤ q ∧ q ≤ l.length := by
  unfold rowL at h
  split at h
  · cases h
  · next t p1 hm =>
    obtain ⟨a1, a2⟩ := mustL_up hp hm
    split at h
    · injection h with e1 e2
      omega
    · split at h
      · cases h
      · next y2 p2 hpp =>
        obtain ⟨c1, c2⟩ := hpt _ _ _ _ _ a2 hpp
        obtain ⟨d1, d2⟩ := loopL_up hpt _ _ _ _ _ c2 h
        omega

def valL (l : List UInt8) (ob : (Tok → Nat → Rd VT) → Nat → Rd VT) : Nat → Nat → Tok → Nat → Rd VT
  | 0, d, t, p => valAt d (.bad 0 0) (.bad 0 0) t p
  | f + 1, d, t, p => valAt d (arrL l (valL l ob f (d + 1)) p) (ob (valL l ob f (d + 1)) p) t p
structure ObjOk (s : ByteArray) (I : Nat) (ob : (Tok → Nat → Rd VT) → Nat → Rd VT) : Prop where
  call : ∀ (H d : Nat) (vl : Tok → Nat → Rd VT), d ≤ 64 → ValD s I H (d + 1) vl → ValUp s vl → ∀ (p : Nat) (u : World), p ≤ s.size → InAt u I s p → ErrIn u → Calls Tryz.prog 60 #[.pointer (some ⟨I, 0, none⟩), .int .i64 (d : Int)] u fun e w' => VlR I s (H + 1) u (ob vl p) e w'
  up : ∀ vl, ValUp s vl → ∀ (p : Nat) (T : VT) (q : Nat), p ≤ s.size → ob vl p = .ok T q → p ≤ q ∧ q ≤ s.size
theorem leafL_up {t : Tok} {p q : Nat} {T : VT} (h : leafL t p = .ok T q) : q = p := by
  unfold leafL at h
  repeat' split at h
  all_goals first | (injection h with e1 e2; exact e2.symm) | cases h
theorem arrL_up {s : ByteArray} {vl : Tok → Nat → Rd VT} (hv : ValUp s vl) {p q : Nat} {T : VT} (hp : p ≤ s.size) (h : arrL s.data.toList vl p = .ok T q) : p ≤ q ∧ q ≤ s.size := by
  unfold arrL at h
  split at h
  · next xs q2 hr =>
    injection h with e1 e2
    subst e2
    refine rowL_up (l := s.data.toList) (fun x t p y q h1 h2 => ?_) hp hr
    unfold aPt at h2
    split at h2
    · next v q3 hv3 =>
      injection h2 with e1 e2
      subst e2
      exact hv _ _ _ _ h1 hv3
    · cases h2
  · cases h
theorem valAt_up {s : ByteArray} {d : Nat} {ra ro : Rd VT} {t : Tok} {p q : Nat} {T : VT} (hp : p ≤ s.size) (ha : ∀ T q, ra = .ok T q → p ≤ q ∧ q ≤ s.size) (ho : ∀ T q, ro = .ok T q → p ≤ q ∧ q ≤ s.size) (h : valAt d ra ro t p = .ok T q) : p ≤ q ∧ q ≤ s.size := by
  unfold valAt at h
  split at h
  · split at h
    · exact ha _ _ h
    · cases h
  · split at h
    · split at h
      · exact ho _ _ h
      · cases h
    · have := leafL_up h
      omega
theorem valL_up {s : ByteArray} {I : Nat} {ob : (Tok → Nat → Rd VT) → Nat → Rd VT} (hO : ObjOk s I ob) : ∀ (f d : Nat), ValUp s (valL s.data.toList ob f d)
  | 0, d => fun t p T q hp h => by
    unfold valL at h
    exact valAt_up hp (fun _ _ h => by cases h) (fun _ _ h => by cases h) h
  | f + 1, d => fun t p T q hp h => by
    unfold valL at h
    exact valAt_up hp (fun _ _ h => arrL_up (valL_up hO f (d + 1)) hp h) (fun _ _ h => hO.up _ (valL_up hO f (d + 1)) _ _ _ hp h) h
theorem w_valD {s : ByteArray} (ss : s.size ≤ 1073741824) {I : Nat} {ob : (Tok → Nat → Rd VT) → Nat → Rd VT} (hO : ObjOk s I ob) (gI : I ≠ 4) : ∀ (f d : Nat), f + d = 65 → ValD s I f d (valL s.data.toList ob f d) := by
  have hTx : ∀ p t p1, mustL s.data.toList p = .ok t p1 → t.text.length ≤ 140737488355328 := fun p t p1 h => by
    have h1 := mustL_text h
    have h2 : s.data.toList.length = s.size := rfl
    omega
  intro f
  induction f with
  | zero =>
    intro d hd t p u hp ht hI hE
    unfold valL valAt
    by_cases h3 : t.kind = 3
    · rw [if_pos h3, if_neg (by omega)]
      exact w_value_deep3 s I d 0 (by omega) (by omega) t h3 p u
    · rw [if_neg h3]
      by_cases h1 : t.kind = 1
      · rw [if_pos h1, if_neg (by omega)]
        exact w_value_deep1 s I d 0 (by omega) (by omega) t h1 p u
      · rw [if_neg h1]
        exact w_value_leaf s I d 0 t p u hI ht h3 h1
  | succ f ih =>
    intro d hd t p u hp ht hI hE
    have hv := ih (d + 1) (by omega)
    have hu := valL_up hO f (d + 1)
    unfold valL valAt
    by_cases h3 : t.kind = 3
    · rw [if_pos h3, if_pos (by omega)]
      exact w_value_arr s I d (f + 1) (by omega) t h3 p u hI _ (fun v h1 h2 => w_array s ss I f d p (by omega) hp _ hv hu hTx v h1 (hE.keep h2) gI)
    · rw [if_neg h3]
      by_cases h1 : t.kind = 1
      · rw [if_pos h1, if_pos (by omega)]
        exact w_value_obj s I d (f + 1) (by omega) t h1 p u hI _ (fun v h1 h2 => hO.call f d _ (by omega) hv hu p v hp h1 (hE.keep h2))
      · rw [if_neg h1]
        exact w_value_leaf s I d (f + 1) t p u hI ht h3 h1
end Go.Proofs.YtcpnodkcnblkdaaGreatDoor
namespace Go.Proofs.YtcpnodkcnblkdaaGreatDoor
open Go.RowKit Go.Shelf
set_option linter.unusedVariables false
set_option linter.unusedSimpArgs false
attribute [local go_sem] Oper.semAt_some

structure M1R (lo Vb k : Nat) (v0 : Value) (xs : List Value) (w w' : World) : Prop where
  os : w'.os = w.os
  tape : w'.tape = w.tape
  output : w'.output = w.output
  size : w.heap.size ≤ w'.heap.size
  block : ∀ b, b < w.heap.size → b ≠ Vb → v0.ownBlock ≠ some b → w'.heap[b]? = w.heap[b]?
  row : ∃ g cap, w'.heap[Vb]? = some (.cells #[.slice (some ⟨g, 0, none⟩) (k + 1) cap] 22 (0, 0)) ∧ w'.ownsRow lo 25 5 (.slice (some ⟨g, 0, none⟩) (k + 1) cap) (k + 1) xs ∧ (v0.ownBlock = some g ∨ w.heap.size ≤ g)
end Go.Proofs.YtcpnodkcnblkdaaGreatDoor
