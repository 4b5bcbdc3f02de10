import Derived.Test.YtmknelkgfnklfaaM20
import Derived.Test.YtmknelkgfnklfaaM26
import Derived.Deep.AppendLies
namespace Go.Proofs.Ytmknelkgfnklfaa
open Go.RowKit Go.Shelf Go.Sort
set_option linter.unusedVariables false
set_option linter.unusedSimpArgs false
attribute [local go_sem] Oper.semAt_some

/-- places as cells -/
def nv (l : List Nat) : List Value := l.map fun (x : Nat) => .int .i64 (x : Int)
theorem nv_len (l : List Nat) : (nv l).length = l.length := by simp [nv]
theorem nv_app (a b : List Nat) : nv (a ++ b) = nv a ++ nv b := by simp [nv]
theorem nv_get {l : List Nat} {i : Nat} (h : i < l.length) : (nv l)[i]? = some (.int .i64 ((l.getD i 0 : Nat) : Int)) := by simp [nv, List.getD, h]

/-- a slice of places, as it lies -/
structure NtC (w : World) (ao : Option Addr) (cap : Nat) (xs : List Nat) : Prop where
  fit : xs.length ≤ cap
  nil : ao = none → cap = 0
  row : 0 < xs.length → ∃ b off, ao = some ⟨b, off, none⟩ ∧ b < w.heap.size ∧ ∀ i, i < xs.length → w.cell? ⟨b, off + i, none⟩ = some (.int .i64 ((xs.getD i 0 : Nat) : Int))
theorem NtC.keep {w w' : World} {ao : Option Addr} {cap : Nat} {xs : List Nat} (h : NtC w ao cap xs) (hb : Below w.heap.size w w') : NtC w' ao cap xs := by
  refine ⟨h.fit, h.nil, fun h0 => ?_⟩
  obtain ⟨b, off, e, hl, hc⟩ := h.row h0
  exact ⟨b, off, e, Nat.lt_of_lt_of_le hl hb.size, fun i hi => (hb.cell (p := ⟨b, off + i, none⟩) hl).trans (hc i hi)⟩
/-- its cells, as append asks for them -/
theorem NtC.news {w : World} {ao : Option Addr} {cap : Nat} {xs : List Nat} (h : NtC w ao cap xs) : ∀ ad, ao = some ad → ∀ j u, (nv xs)[j]? = some u → w.cell? (ad.add j) = some u := by
  intro ad ha j u hu
  have hj : j < xs.length := by have := (List.getElem?_eq_some_iff.1 hu).1; rwa [nv_len] at this
  obtain ⟨b, off, e, hl, hc⟩ := h.row (by omega)
  rw [e] at ha
  obtain rfl := Option.some.inj ha
  rw [nv_get hj] at hu
  obtain rfl := Option.some.inj hu
  rw [Addr.add_lit]
  exact hc j hj
theorem nv_one (xs : List Nat) : ∀ u ∈ nv xs, u.oneCell' = true := by
  intro u hu
  obtain ⟨x, _, rfl⟩ := List.mem_map.1 hu
  rfl
/-- a row of one's own -/
theorem NtC.of_own {w : World} {base g n cap : Nat} {xs : List Nat} (h : w.ownsRow base 3 1 (.slice (some ⟨g, 0, none⟩) n cap) n (nv xs)) (hn : xs.length = n) : NtC w (some ⟨g, 0, none⟩) cap xs := by
  refine ⟨?_, fun e => (by cases e), fun h0 => ⟨g, 0, rfl, (h.lt g rfl).2, fun i hi => ?_⟩⟩
  · rcases h.2 with ⟨h1, _⟩ | ⟨g', cap', cur, h1, hcap, _⟩
    · cases h1
    · simp only [Value.slice.injEq, Option.some.injEq, Addr.mk.injEq] at h1
      omega
  · rw [Nat.zero_add, own_cellAt h (by omega), nv_get hi]
theorem NtC.tail {w : World} {b off cap : Nat} {x : Nat} {xs : List Nat} (h : NtC w (some ⟨b, off, none⟩) cap (x :: xs)) (ao : Option Addr) (ha : ao = none → cap - 1 = 0) (ha2 : ¬ cap = 1 → ao = some ⟨b, off + 1, none⟩) : NtC w ao (cap - 1) xs := by
  have hf := h.fit
  simp only [List.length_cons] at hf
  refine ⟨by omega, ha, fun h0 => ?_⟩
  obtain ⟨b', off', e, hl, hc⟩ := h.row (by simp)
  simp only [Option.some.injEq, Addr.mk.injEq] at e
  obtain ⟨rfl, rfl, _⟩ := e
  refine ⟨b, off + 1, ha2 (by omega), hl, fun i hi => ?_⟩
  have := hc (i + 1) (by simp; omega)
  rw [show off + 1 + i = off + (i + 1) from by omega, this]
  rfl

theorem Try.infoI : (Try.prog.info? 3).map (fun i => (i.zero, i.size, i.bytes)) = some (some (.int .i64 0), 1, 8) := by kernel_rfl

def lenV : Value → Nat
  | .slice _ n _ => n
  | _ => 0

/-- what merged holds in its loop -/
structure MgS (w wr : World) (c : Nat → Nat → Int) (xs ys l r pre : List Nat) (N : Nat) (ao : Option Addr) (ac : Nat) (bo : Option Addr) (bc : Nat) : Prop where
  below : Below w.heap.size w wr
  a : NtC w ao ac l
  b : NtC w bo bc r
  own : wr.ownsRow w.heap.size 3 1 (.slice (some ⟨w.heap.size, 0, none⟩) pre.length N) pre.length (nv pre)
  eq : mg c xs ys = pre ++ mg c l r
  len : pre.length + l.length + r.length = N
  ma : ∀ x ∈ l, x ∈ xs
  mb : ∀ x ∈ r, x ∈ ys

theorem MgS.left {w wr w2 w3 : World} {c : Nat → Nat → Int} {xs ys l r pre : List Nat} {x y N b off lc rc : Nat} {ro : Option Addr} {o : Obj} (h : MgS w wr c xs ys (x :: l) (y :: r) pre N (some ⟨b, off, none⟩) lc ro rc) (hb : Below wr.heap.size wr w2) (hz : mg c (x :: l) (y :: r) = x :: mg c l (y :: r))
    (hg : (w2.alloc o).drew.grownBy w3 (some w.heap.size)) (hown : w3.ownsRow w.heap.size 3 1 (.slice (some ⟨w.heap.size, 0, none⟩) (pre.length + 1) N) (pre.length + 1) (nv pre ++ [.int .i64 (x : Int)])) (lo : Option Addr) (ha : lo = none → lc - 1 = 0) (ha2 : ¬ lc = 1 → lo = some ⟨b, off + 1, none⟩) :
    MgS w w3 c xs ys l (y :: r) (pre ++ [x]) N lo (lc - 1) ro rc := by
  have hs := h.below.size
  have hs2 := hb.size
  refine ⟨(((h.below.trans (hb.mono hs)).alloc (by omega) o).drew.grown hg (by simp; omega) (fun j e => by cases e; exact Nat.le_refl _)), h.a.tail lo ha ha2, h.b, ?_, ?_, ?_, fun z hz => h.ma z (List.mem_cons_of_mem _ hz), h.mb⟩
  · rw [nv_app, List.length_append]; exact hown
  · rw [h.eq, hz]; simp
  · have := h.len; simp at this ⊢; omega

theorem MgS.right {w wr w2 w3 : World} {c : Nat → Nat → Int} {xs ys l r pre : List Nat} {x y N b off lc rc : Nat} {lo : Option Addr} {o : Obj} (h : MgS w wr c xs ys (x :: l) (y :: r) pre N lo lc (some ⟨b, off, none⟩) rc) (hb : Below wr.heap.size wr w2) (hz : mg c (x :: l) (y :: r) = y :: mg c (x :: l) r)
    (hg : (w2.alloc o).drew.grownBy w3 (some w.heap.size)) (hown : w3.ownsRow w.heap.size 3 1 (.slice (some ⟨w.heap.size, 0, none⟩) (pre.length + 1) N) (pre.length + 1) (nv pre ++ [.int .i64 (y : Int)])) (ro : Option Addr) (ha : ro = none → rc - 1 = 0) (ha2 : ¬ rc = 1 → ro = some ⟨b, off + 1, none⟩) :
    MgS w w3 c xs ys (x :: l) r (pre ++ [y]) N lo lc ro (rc - 1) := by
  have hs := h.below.size
  have hs2 := hb.size
  refine ⟨(((h.below.trans (hb.mono hs)).alloc (by omega) o).drew.grown hg (by simp; omega) (fun j e => by cases e; exact Nat.le_refl _)), h.a, h.b.tail ro ha ha2, ?_, ?_, ?_, h.ma, fun z hz => h.mb z (List.mem_cons_of_mem _ hz)⟩
  · rw [nv_app, List.length_append]; exact hown
  · rw [h.eq, hz]; simp
  · have := h.len; simp at this ⊢; omega

/-- the rests behind -/
theorem MgS.fin {w wr w2 w3 : World} {c : Nat → Nat → Int} {xs ys l r pre : List Nat} {N lc rc : Nat} {lo ro : Option Addr} (h : MgS w wr c xs ys l r pre N lo lc ro rc) (hz : mg c l r = l ++ r)
    (hg : wr.grownBy w2 (some w.heap.size)) (hg2 : w2.grownBy w3 (some w.heap.size)) (hown : w3.ownsRow w.heap.size 3 1 (.slice (some ⟨w.heap.size, 0, none⟩) N N) N (nv pre ++ nv l ++ nv r)) :
    NtC w3 (some ⟨w.heap.size, 0, none⟩) N (mg c xs ys) ∧ Below w.heap.size w w3 := by
  have hs := h.below.size
  have hs2 := hg.size
  refine ⟨?_, (h.below.grown hg hs (fun j e => by cases e; exact Nat.le_refl _)).grown hg2 (by omega) (fun j e => by cases e; exact Nat.le_refl _)⟩
  rw [h.eq, hz, ← List.append_assoc]
  rw [← nv_app, ← nv_app] at hown
  exact .of_own hown (by have := h.len; simp; omega)

set_option maxRecDepth 100000 in
set_option maxHeartbeats 3200000 in
theorem w_merged (c : Nat → Nat → Int) (P : Nat → Prop) (lb : Value) (ao : Option Addr) (M acap : Nat) (bo : Option Addr) (K bcap : Nat) (xs ys : List Nat) (w : World) (ha : NtC w ao acap xs) (hb : NtC w bo bcap ys) (hM : xs.length = M) (hK : ys.length = K) (hMK : M + K ≤ 1100000) (hx : ∀ x ∈ xs, P x) (hy : ∀ y ∈ ys, P y)
    (HC : Hid (∀ u, Below w.heap.size w u → ∀ i j : Nat, P i → P j → Calls Try.prog 51 #[.int .i64 (i : Int), .int .i64 (j : Int), lb] u fun e w' => e = .returned (.int .i64 (c i j)) ∧ Below u.heap.size u w')) :
    Calls Try.prog 68 #[.slice ao M acap, .slice bo K bcap, .func (.func 51) #[] #[lb]] w fun e w' => ∃ cap, e = .returned (.slice (some ⟨w.heap.size, 0, none⟩) (M + K) cap) ∧ NtC w' (some ⟨w.heap.size, 0, none⟩) cap (mg c xs ys) ∧ Below w.heap.size w w' := by
  obtain ⟨i0, hi0, hz0, hz1, hz2⟩ := info_parts Try.infoI
  have HA := Hid.mk ha
  have HB := Hid.mk hb
  have HM := Hid.mk hM
  have HK := Hid.mk hK
  have HX := Hid.mk hx
  have HY := Hid.mk hy
  clear ha hb hM hK hx hy
  have hmax : M + K ≤ maxLen := by unfold maxLen; omega
  go_enter Try.func68, Try.ntmps68
  go_wp2_with (at_make; go_loud (refine wpList_make_own _ rfl _ _ 50 rfl w.heap.size 3 i0 (.int .i64 0) 1 Try.underlying50 hi0 hz0 hz1 .i64 .i64 _ (M + K) rfl rfl (by omega) (by rw [hz2]; omega) hmax (Nat.le_refl _) ?_; intro w1 hown1 hgrow1))
  go_loopw [0, 1, 7] (fun va vb vo wr => ∃ (l r pre : List Nat) (lo : Option Addr) (lc : Nat) (ro : Option Addr) (rc : Nat), va = .slice lo l.length lc ∧ vb = .slice ro r.length rc ∧ vo = .slice (some ⟨w.heap.size, 0, none⟩) pre.length (M + K) ∧ Hid (MgS w wr c xs ys l r pre (M + K) lo lc ro rc)) (fun va vb _ _ => lenV va + lenV vb)
  case atStart => exact ⟨xs, ys, [], ao, acap, bo, bcap, by rw [HM.out], by rw [HK.out], rfl, ⟨(Below.refl _ _).grown hgrow1 (Nat.le_refl _) (fun j e => by cases e), HA.out, HB.out, hown1, rfl, by simp [HM.out, HK.out], fun _ h => h, fun _ h => h⟩⟩
  case round =>
    clear hown1 hgrow1
    obtain ⟨l, r, pre, lo, lc, ro, rc, rfl, rfl, rfl, HS⟩ := hrel
    cases l with
    | nil =>
      obtain ⟨nb, hnb⟩ : ∃ nb, r.length = nb := ⟨_, rfl⟩
      rw [hnb]
      have HNB := Hid.mk hnb
      have hlen := HS.out.len
      simp only [List.length_nil, List.length_cons] at hlen
      rw [hnb] at hlen
      clear hnb
      go_wp2_with (at_builtin; first | (refine wpList_append_fits_any _ rfl _ _ 50 rfl w.heap.size 3 i0 1 Try.underlying50 hi0 hz1 w.heap.size pre.length (M + K) (nv pre) rfl HS.out.own lo 0 lc (nv []) rfl (by rfl) (fun e => ⟨rfl, HS.out.a.nil e⟩) (HS.out.a.keep HS.out.below).news (nv_one _) (by omega) ?_; intro w2 hown2 hgrow2) | (refine wpList_append_fits_any _ rfl _ _ 50 rfl w.heap.size 3 i0 1 Try.underlying50 hi0 hz1 w.heap.size (pre.length + 0) (M + K) _ rfl hown2 ro nb rc (nv r) rfl (by rw [nv_len, HNB.out]; omega) (fun e => ⟨(by have h1 := HS.out.b.fit; have h2 := HS.out.b.nil e; have h3 := HNB.out; omega), HS.out.b.nil e⟩) (HS.out.b.keep (HS.out.below.grown hgrow2 HS.out.below.size (fun j e => by cases e; exact Nat.le_refl _))).news (nv_one _) (by omega) ?_; intro w3 hown3 hgrow3))
      have eN : pre.length + 0 + nb = M + K := by omega
      rw [eN] at hown3
      clear eN
      have HFin := Hid.mk (MgS.fin HS.out (mg_nil ..) hgrow2 hgrow3 hown3)
      have HL : Hid (pre.length + 0 + nb = M + K) := hlen
      clear hown2 hown3 hgrow2 hgrow3 hlen
      go_wp2_with fail
      go_ret
      exact ⟨M + K, by rw [← HL.out]; rfl, HFin.out.1, HFin.out.2⟩
    | cons x l =>
      cases r with
      | nil =>
        obtain ⟨na, hna⟩ : ∃ na, l.length = na := ⟨_, rfl⟩
        rw [List.length_cons, hna]
        have HNA := Hid.mk hna
        have e1 : 0 < (na : Int) + 1 := by omega
        have hlen := HS.out.len
        simp only [List.length_nil, List.length_cons] at hlen
        rw [hna] at hlen
        clear hna
        go_wp2_with (at_builtin; first | (refine wpList_append_fits_any _ rfl _ _ 50 rfl w.heap.size 3 i0 1 Try.underlying50 hi0 hz1 w.heap.size pre.length (M + K) (nv pre) rfl HS.out.own lo (na + 1) lc (nv (x :: l)) rfl (by rw [nv_len, List.length_cons, HNA.out]; omega) (fun e => ⟨(by have h1 := HS.out.a.fit; have h2 := HS.out.a.nil e; simp at h1; omega), HS.out.a.nil e⟩) (HS.out.a.keep HS.out.below).news (nv_one _) (by omega) ?_; intro w2 hown2 hgrow2) | (refine wpList_append_fits_any _ rfl _ _ 50 rfl w.heap.size 3 i0 1 Try.underlying50 hi0 hz1 w.heap.size (pre.length + (na + 1)) (M + K) _ rfl hown2 ro 0 rc (nv []) rfl (by rfl) (fun e => ⟨rfl, HS.out.b.nil e⟩) (HS.out.b.keep (HS.out.below.grown hgrow2 HS.out.below.size (fun j e => by cases e; exact Nat.le_refl _))).news (nv_one _) (by omega) ?_; intro w3 hown3 hgrow3))
        have eN : pre.length + (na + 1) + 0 = M + K := by omega
        rw [eN] at hown3
        clear eN
        have HFin := Hid.mk (MgS.fin HS.out (by rw [mg_nil', List.append_nil]) hgrow2 hgrow3 hown3)
        have HL : Hid (pre.length + (na + 1) + 0 = M + K) := hlen
        clear hown2 hown3 hgrow2 hgrow3 hlen
        go_wp2_with fail
        go_ret
        exact ⟨M + K, by rw [← HL.out]; rfl, HFin.out.1, HFin.out.2⟩
      | cons y r =>
        have HPx := Hid.mk (HX.out x (HS.out.ma x (List.mem_cons_self ..)))
        have HPy := Hid.mk (HY.out y (HS.out.mb y (List.mem_cons_self ..)))
        obtain ⟨b, off, hlo, hbl, hrow⟩ := (HS.out.a.keep HS.out.below).row (by simp)
        obtain ⟨b2, off2, hro, hbl2, hrow2⟩ := (HS.out.b.keep HS.out.below).row (by simp)
        subst hlo
        subst hro
        have c0 : wr.cell? ⟨b, off, none⟩ = some (.int .i64 (x : Int)) := hrow 0 (by simp)
        have d0 : wr.cell? ⟨b2, off2, none⟩ = some (.int .i64 (y : Int)) := hrow2 0 (by simp)
        have HCC := Hid.mk (fun (d : Nat) (os : Array Obj) => HC.out (grow (redrawn wr d) os) (HS.out.below.trans ((below_regrown wr d os).mono HS.out.below.size)) x y HPx.out HPy.out)
        have fl := HS.out.a.fit
        have fr := HS.out.b.fit
        have HLE := Hid.mk (fun h => mg_le (c := c) (x := x) (y := y) (xs := l) (ys := r) h)
        have HGT := Hid.mk (fun h => mg_gt (c := c) (x := x) (y := y) (xs := l) (ys := r) h)
        generalize hcc : c x y = z at HCC HLE HGT
        clear hcc hrow hrow2
        simp only [List.length_cons] at *
        obtain ⟨na, hna⟩ : ∃ na, l.length = na := ⟨_, rfl⟩
        obtain ⟨nb, hnb⟩ : ∃ nb, r.length = nb := ⟨_, rfl⟩
        rw [hna] at fl ⊢
        rw [hnb] at fr ⊢
        have HNA := Hid.mk hna
        have HNB := Hid.mk hnb
        clear hna hnb
        have e1 : 0 < (na : Int) + 1 := by omega
        have e2 : 0 < (nb : Int) + 1 := by omega
        have R0 := fun d os => cell_regrown c0 d os
        have S0 := fun d os => cell_regrown d0 d os
        go_wp2_with fail
        refine wp_region_quiet_below (by kernel_rfl) (by kernel_rfl) ?_
        repeat (go_big_quiet_step (exact Calls.regrown_of (HCC.out _ _)))
        refine wpQuiet_nil ?_
        intro w2 hw'
        have HB2 : Hid (Below wr.heap.size wr w2) := by
          obtain ⟨⟨dq, osq⟩, rfl⟩ := hw'
          exact below_regrown wr dq osq
        clear hw' R0 S0 HCC
        by_cases hz : z ≤ 0
        · have HE := Hid.mk (HLE.out hz)
          clear HLE HGT
          have hkc : pre.length + 1 ≤ M + K := by have := HS.out.len; simp at this; omega
          have d1 : w2.cell? ⟨b, off, none⟩ = some (.int .i64 (x : Int)) := (HB2.out.cell (p := ⟨b, off, none⟩) hbl).trans c0
          have d1a : ∀ o, (w2.alloc o).cell? ⟨b, off, none⟩ = some (.int .i64 (x : Int)) := fun o => ((below1 w2 o).cell (p := ⟨b, off, none⟩) (Nat.lt_of_lt_of_le hbl HB2.out.size)).trans d1
          have hown := own_low HS.out.own HB2.out
          have s1 : (1 : Int) ≤ (na : Int) + 1 := by omega
          by_cases hl1 : lc = 1
          · subst hl1
            obtain rfl : na = 0 := by omega
            go_wp2_with fail
            go_region_law (refine step_append_fits (by rfl) _ _ _ (by rfl) w.heap.size 3 i0 1 Try.underlying50 hi0 hz1 w.heap.size pre.length (M + K) (nv pre) (by rfl) (hown.alloc _) ⟨w2.heap.size, 0, none⟩ 1 1 [.int .i64 (x : Int)] (by rfl) (by rfl) (World.news_of_block (cs := #[.int .i64 (x : Int)]) (t := 3) (fr := (0, 0)) (heap_alloc_new w2 _)) (by simp [Value.oneCell']) hkc ?_; intro w3 hown3 hgrow3)
            have HN : Hid (MgS w w3 c xs ys l (y :: r) (pre ++ [x]) (M + K) (some ⟨b, off, none⟩) 0 (some ⟨b2, off2, none⟩) rc) := MgS.left HS.out HB2.out HE.out hgrow3 hown3 (some ⟨b, off, none⟩) (fun e => by cases e) (fun e => absurd rfl e)
            clear hown3 hgrow3 hown d1 d1a c0 d0
            go_simp
            go_wp2_with fail
            go_roundw
            case rel => exact ⟨_, _, _, _, _, _, _, by rw [HNA.out], by rw [List.length_cons, HNB.out], by rw [List.length_append]; rfl, HN⟩
            case measure => simp [lenV]
          · go_wp2_with fail
            go_region_law (refine step_append_fits (by rfl) _ _ _ (by rfl) w.heap.size 3 i0 1 Try.underlying50 hi0 hz1 w.heap.size pre.length (M + K) (nv pre) (by rfl) (hown.alloc _) ⟨w2.heap.size, 0, none⟩ 1 1 [.int .i64 (x : Int)] (by rfl) (by rfl) (World.news_of_block (cs := #[.int .i64 (x : Int)]) (t := 3) (fr := (0, 0)) (heap_alloc_new w2 _)) (by simp [Value.oneCell']) hkc ?_; intro w3 hown3 hgrow3)
            have HN : Hid (MgS w w3 c xs ys l (y :: r) (pre ++ [x]) (M + K) (some ⟨b, off + 1, none⟩) (lc - 1) (some ⟨b2, off2, none⟩) rc) := MgS.left HS.out HB2.out HE.out hgrow3 hown3 (some ⟨b, off + 1, none⟩) (fun e => by cases e) (fun _ => rfl)
            clear hown3 hgrow3 hown d1 d1a c0 d0
            go_simp
            go_wp2_with fail
            go_roundw
            case rel => exact ⟨_, _, _, _, _, _, _, by rw [HNA.out], by rw [List.length_cons, HNB.out], by rw [List.length_append]; rfl, HN⟩
            case measure => simp [lenV]
        · have HE := Hid.mk (HGT.out (by omega))
          clear HLE HGT
          have hkc : pre.length + 1 ≤ M + K := by have := HS.out.len; simp at this; omega
          have d1 : w2.cell? ⟨b2, off2, none⟩ = some (.int .i64 (y : Int)) := (HB2.out.cell (p := ⟨b2, off2, none⟩) hbl2).trans d0
          have d1a : ∀ o, (w2.alloc o).cell? ⟨b2, off2, none⟩ = some (.int .i64 (y : Int)) := fun o => ((below1 w2 o).cell (p := ⟨b2, off2, none⟩) (Nat.lt_of_lt_of_le hbl2 HB2.out.size)).trans d1
          have hown := own_low HS.out.own HB2.out
          have s1 : (1 : Int) ≤ (nb : Int) + 1 := by omega
          by_cases hl1 : rc = 1
          · subst hl1
            obtain rfl : nb = 0 := by omega
            go_wp2_with fail
            go_region_law (refine step_append_fits (by rfl) _ _ _ (by rfl) w.heap.size 3 i0 1 Try.underlying50 hi0 hz1 w.heap.size pre.length (M + K) (nv pre) (by rfl) (hown.alloc _) ⟨w2.heap.size, 0, none⟩ 1 1 [.int .i64 (y : Int)] (by rfl) (by rfl) (World.news_of_block (cs := #[.int .i64 (y : Int)]) (t := 3) (fr := (0, 0)) (heap_alloc_new w2 _)) (by simp [Value.oneCell']) hkc ?_; intro w3 hown3 hgrow3)
            have HN : Hid (MgS w w3 c xs ys (x :: l) r (pre ++ [y]) (M + K) (some ⟨b, off, none⟩) lc (some ⟨b2, off2, none⟩) 0) := MgS.right HS.out HB2.out HE.out hgrow3 hown3 (some ⟨b2, off2, none⟩) (fun e => by cases e) (fun e => absurd rfl e)
            clear hown3 hgrow3 hown d1 d1a c0 d0
            go_simp
            go_wp2_with fail
            go_roundw
            case rel => exact ⟨_, _, _, _, _, _, _, by rw [List.length_cons, HNA.out], by rw [HNB.out], by rw [List.length_append]; rfl, HN⟩
            case measure => simp [lenV]
          · go_wp2_with fail
            go_region_law (refine step_append_fits (by rfl) _ _ _ (by rfl) w.heap.size 3 i0 1 Try.underlying50 hi0 hz1 w.heap.size pre.length (M + K) (nv pre) (by rfl) (hown.alloc _) ⟨w2.heap.size, 0, none⟩ 1 1 [.int .i64 (y : Int)] (by rfl) (by rfl) (World.news_of_block (cs := #[.int .i64 (y : Int)]) (t := 3) (fr := (0, 0)) (heap_alloc_new w2 _)) (by simp [Value.oneCell']) hkc ?_; intro w3 hown3 hgrow3)
            have HN : Hid (MgS w w3 c xs ys (x :: l) r (pre ++ [y]) (M + K) (some ⟨b, off, none⟩) lc (some ⟨b2, off2 + 1, none⟩) (rc - 1)) := MgS.right HS.out HB2.out HE.out hgrow3 hown3 (some ⟨b2, off2 + 1, none⟩) (fun e => by cases e) (fun _ => rfl)
            clear hown3 hgrow3 hown d1 d1a c0 d0
            go_simp
            go_wp2_with fail
            go_roundw
            case rel => exact ⟨_, _, _, _, _, _, _, by rw [List.length_cons, HNA.out], by rw [HNB.out], by rw [List.length_append]; rfl, HN⟩
            case measure => simp [lenV]
end Go.Proofs.Ytmknelkgfnklfaa
namespace Go.Proofs.Ytmknelkgfnklfaa
open Go.RowKit Go.Shelf Go.Sort
set_option linter.unusedVariables false
set_option linter.unusedSimpArgs false
attribute [local go_sem] Oper.semAt_some

set_option maxRecDepth 100000 in
set_option maxHeartbeats 3200000 in
theorem w_byKey (h : Nat) (io : Option Addr) (N icap : Nat) (ts : List VT) (w : World) (hi : IIn w h io ts) (hN : ts.length = N) (hcap : N ≤ icap) (bx : Nat) (hx : w.cell? ⟨bx, 0, none⟩ = some (.slice io N icap)) (i j : Nat) (h1 : i < N) (h2 : j < N) :
    Calls Try.prog 51 #[.int .i64 (i : Int), .int .i64 (j : Int), .pointer (some ⟨bx, 0, none⟩)] w fun e w' => e = .returned (.int .i64 (cK h ts i j)) ∧ Below w.heap.size w w' := by
  have hk1 : i < ts.length := by rw [hN]; exact h1
  have hk0 : j < ts.length := by rw [hN]; exact h2
  obtain ⟨b, off, hio, hbl, hrow⟩ := hi.row (by omega)
  subst hio
  obtain ⟨ik, inm, itx, iio, iN, iicap, iko, iK, ikcap, ⟨c0, c1, c2, c3, c4⟩, ht⟩ := item_at hrow hk1
  obtain ⟨jk, jnm, jtx, jio, jN, jicap, jko, jK, jkcap, ⟨d0, d1, d2, d3, d4⟩, hu⟩ := item_at hrow hk0
  have HC := Hid.mk (fun (d : Nat) (os : Array Obj) => w_vCmp h ts[i] ts[j] _ _ (grow (redrawn w d) os) (ht.keep (below_regrown w d os)) (hu.keep (below_regrown w d os)))
  have HE := Hid.mk (cK_at (h := h) hk1 hk0)
  rw [HE.out]
  have hi1 : (i : Int) < (N : Int) := by omega
  have hi2 : (j : Int) < (N : Int) := by omega
  have hi3 : (0 : Int) ≤ (i : Int) := by omega
  have hi4 : (0 : Int) ≤ (j : Int) := by omega
  have X0 := fun d os => cell_regrown hx d os
  have R0 := fun d os => cell_regrown c0 d os
  have R1 := fun d os => cell_regrown c1 d os
  have R2 := fun d os => cell_regrown c2 d os
  have R3 := fun d os => cell_regrown c3 d os
  have R4 := fun d os => cell_regrown c4 d os
  have S0 := fun d os => cell_regrown d0 d os
  have S1 := fun d os => cell_regrown d1 d os
  have S2 := fun d os => cell_regrown d2 d os
  have S3 := fun d os => cell_regrown d3 d os
  have S4 := fun d os => cell_regrown d4 d os
  generalize cmpH h ts[i] ts[j] = c at *
  clear hrow hbl ht hu hk1 hk0 c0 c1 c2 c3 c4 d0 d1 d2 d3 d4 HE hi hN hx
  go_enter Try.func51, Try.ntmps51
  go_wp2_with fail
  refine wp_region_quiet_below (by kernel_rfl) (by kernel_rfl) ?_
  repeat (go_big_quiet_step (exact Calls.regrown_of (HC.out _ _)))
  refine wpQuiet_nil ?_
  intro w2 hw'
  have HB2 : Hid (Below w.heap.size w w2) := by
    obtain ⟨⟨dq, osq⟩, rfl⟩ := hw'
    exact below_regrown w dq osq
  clear hw' R0 R1 R2 R3 R4 S0 S1 S2 S3 S4 HC X0
  go_wp2_with fail
  go_ret
  exact ⟨rfl, HB2.out⟩

theorem ownZ_set {w : World} {B e n cap g k : Nat} {xs : List Value} (h : w.ownsRow B e 1 (.slice (some ⟨g, 0, none⟩) n cap) n xs) (hk : k < n) (x : Value) : (w.setCell ⟨g, k, none⟩ x).ownsRow B e 1 (.slice (some ⟨g, 0, none⟩) n cap) n (xs.set k x) := by
  refine ⟨by have := h.1; simp at this ⊢; exact this, ?_⟩
  rcases h.2 with ⟨e, e2⟩ | ⟨g', cap', cur, e, hb, hg, h1, h2, h3, h4⟩
  · omega
  · simp only [Value.slice.injEq] at e
    obtain ⟨e1, _, rfl⟩ := e
    have e1 : g = g' := by simpa using e1
    subst e1
    refine .inr ⟨g, cap, cur.setIfInBounds k x, rfl, hb, heap_setCell_same w g k _ _ _ hg, h1, h2, by simpa using h3, ?_⟩
    rw [Array.toList_setIfInBounds, List.take_set, h4]
theorem ownZ_free {w : World} {B e n cap g : Nat} {xs : List Value} (h : w.ownsRow B e 1 (.slice (some ⟨g, 0, none⟩) n cap) n xs) (k : Nat) : w.frozen? ⟨g, k, none⟩ = false := by
  rcases h.2 with ⟨e, e2⟩ | ⟨g', cap', cur, e, hb, hg, _⟩
  · simp at e
  · simp only [Value.slice.injEq] at e
    have e1 : g = g' := by simpa using e.1
    subst e1
    exact frozen_of_row w g k _ _ hg
theorem made_len (z : Value) (n : Nat) (h : z.cells.size = 1) : (madeCells z.cells (n * 1)).toList.length = n := by
  unfold madeCells
  simp [h]

set_option maxRecDepth 100000 in
set_option maxHeartbeats 3200000 in
theorem w_places (N : Nat) (w : World) (hN : N ≤ 1100000) :
    Calls Try.prog 54 #[.int .i64 (N : Int)] w fun e w' => e = .returned (.slice (some ⟨w.heap.size, 0, none⟩) N N) ∧ NtC w' (some ⟨w.heap.size, 0, none⟩) N (List.range N) ∧ Below w.heap.size w w' := by
  obtain ⟨i0, hi0, hz0, hz1, hz2⟩ := info_parts Try.infoI
  have hmax : N ≤ maxLen := by unfold maxLen; omega
  go_enter Try.func54, Try.ntmps54
  go_wp2_with (at_make; go_loud (refine wpList_make_full _ rfl _ _ 50 rfl w.heap.size 3 i0 (.int .i64 0) 1 Try.underlying50 hi0 hz0 hz1 .i64 .i64 _ _ N rfl rfl rfl rfl (by rw [hz2]; omega) hmax (Nat.le_refl _) ?_; intro w1 hown1 hgrow1))
  obtain ⟨Z, hZ, hown1⟩ : ∃ Z : List Value, Z.length = N ∧ w1.ownsRow w.heap.size 3 1 (.slice (some ⟨w.heap.size, 0, none⟩) N N) N Z := ⟨_, made_len _ N rfl, hown1⟩
  have HZ := Hid.mk hZ
  have HB1 : Hid (Below w.heap.size w w1) := (Below.refl _ _).grown hgrow1 (Nat.le_refl _) (fun j e => by cases e)
  clear hZ hgrow1
  go_loopw [9] (fun i wr => ∃ k : Nat, k ≤ N ∧ i = .int .i64 (k : Int) ∧ Hid (wr.ownsRow w.heap.size 3 1 (.slice (some ⟨w.heap.size, 0, none⟩) N N) N (nv (List.range k) ++ Z.drop k)) ∧ Hid (Below w.heap.size w wr)) (fun i _ => N - (intOf i).toNat)
  case atStart => exact ⟨0, Nat.zero_le _, rfl, hown1, HB1⟩
  case round =>
    clear hown1
    obtain ⟨k, hk, rfl, HO, HB⟩ := hrel
    by_cases hlt : k < N
    · have hl1 : (k : Int) < (N : Int) := by omega
      have hl0 : (0 : Int) ≤ (k : Int) := by omega
      have hfr := ownZ_free HO.out k
      have hcell : ∃ v, wr.cell? ⟨w.heap.size, k, none⟩ = some v := by
        rw [own_cellAt HO.out (by omega)]
        have hl : k < (nv (List.range k) ++ Z.drop k).length := by rw [List.length_append, nv_len, List.length_range, List.length_drop, HZ.out]; omega
        exact ⟨_, List.getElem?_eq_getElem hl⟩
      obtain ⟨v, hv⟩ := hcell
      have HO2 : Hid ((wr.setCell ⟨w.heap.size, k, none⟩ (.int .i64 (k : Int))).ownsRow w.heap.size 3 1 (.slice (some ⟨w.heap.size, 0, none⟩) N N) N (nv (List.range (k + 1)) ++ Z.drop (k + 1))) := by
        have e : (nv (List.range k) ++ Z.drop k).set k (.int .i64 (k : Int)) = nv (List.range (k + 1)) ++ Z.drop (k + 1) := by
          rw [List.set_append_right _ _ (by rw [nv_len, List.length_range]; omega), nv_len, List.length_range, Nat.sub_self, List.range_succ, nv_app, List.append_assoc]
          congr 1
          rw [List.drop_eq_getElem_cons (by rw [HZ.out]; exact hlt)]
          rfl
        rw [← e]
        exact ownZ_set HO.out hlt _
      have HB2 : Hid (Below w.heap.size w (wr.setCell ⟨w.heap.size, k, none⟩ (.int .i64 (k : Int)))) := HB.out.setCell (p := ⟨w.heap.size, k, none⟩) (Nat.le_refl _) _
      go_wp2_with fail
      go_roundw
      case rel => exact ⟨k + 1, by omega, by go_num, HO2, HB2⟩
      case measure => simp [intOf]; omega
    · have hl1 : ¬ (k : Int) < (N : Int) := by omega
      have HF : Hid (wr.ownsRow w.heap.size 3 1 (.slice (some ⟨w.heap.size, 0, none⟩) N N) N (nv (List.range N))) := by
        have h := HO.out
        have e : k = N := by omega
        subst e
        rw [List.drop_of_length_le (by rw [HZ.out]; omega), List.append_nil] at h
        exact h
      go_wp2_with fail
      go_ret
      exact ⟨rfl, .of_own HF.out List.length_range, HB.out⟩
end Go.Proofs.Ytmknelkgfnklfaa
namespace Go.Proofs.Ytmknelkgfnklfaa
open Go.RowKit Go.Shelf Go.Sort
set_option linter.unusedVariables false
set_option linter.unusedSimpArgs false
attribute [local go_sem] Oper.semAt_some

theorem NtC.take {w : World} {ao : Option Addr} {cap n : Nat} {xs : List Nat} (h : NtC w ao cap xs) (hn : n ≤ xs.length) : NtC w ao cap (xs.take n) := by
  have hf := h.fit
  refine ⟨by rw [List.length_take]; omega, h.nil, fun h0 => ?_⟩
  rw [List.length_take] at h0
  obtain ⟨b, off, e, hl, hc⟩ := h.row (by omega)
  refine ⟨b, off, e, hl, fun i hi => ?_⟩
  rw [List.length_take] at hi
  rw [hc i (by omega)]
  simp [List.getD, List.getElem?_take, show i < n by omega]
theorem NtC.drop {w : World} {b off cap n : Nat} {xs : List Nat} (h : NtC w (some ⟨b, off, none⟩) cap xs) (hn : n < xs.length) : NtC w (some ⟨b, off + n, none⟩) (cap - n) (xs.drop n) := by
  have hf := h.fit
  refine ⟨by rw [List.length_drop]; omega, fun e => (by cases e), fun h0 => ?_⟩
  obtain ⟨b', off', e, hl, hc⟩ := h.row (by omega)
  simp only [Option.some.injEq, Addr.mk.injEq] at e
  obtain ⟨rfl, rfl, _⟩ := e
  refine ⟨b, off + n, rfl, hl, fun i hi => ?_⟩
  rw [List.length_drop] at hi
  rw [show off + n + i = off + (n + i) from by omega, hc (n + i) (by omega)]
  simp [List.getD, List.getElem?_drop]
theorem NtC.drew {w : World} {ao : Option Addr} {cap : Nat} {xs : List Nat} (h : NtC w ao cap xs) : NtC w.drew ao cap xs := ⟨h.fit, h.nil, h.row⟩

theorem belD {w u : World} (h : Below w.drew.heap.size w.drew u) : Below w.heap.size w u := (Below.refl _ w).drew.trans h

/-- sorted, for rows so long -/
def SrOk (c : Nat → Nat → Int) (P : Nat → Prop) (lb : Value) (f : Nat) : Prop := ∀ (b off M acap : Nat) (xs : List Nat) (w : World), NtC w (some ⟨b, off, none⟩) acap xs → xs.length = M → M ≤ f → M ≤ 1100000 → (∀ x ∈ xs, P x) →
    (∀ u, Below w.heap.size w u → ∀ i j : Nat, P i → P j → Calls Try.prog 51 #[.int .i64 (i : Int), .int .i64 (j : Int), lb] u fun e w' => e = .returned (.int .i64 (c i j)) ∧ Below u.heap.size u w') →
    Calls Try.prog 53 #[.slice (some ⟨b, off, none⟩) M acap, .func (.func 51) #[] #[lb]] w fun e w' => ∃ b' off' cap, e = .returned (.slice (some ⟨b', off', none⟩) M cap) ∧ NtC w' (some ⟨b', off', none⟩) cap (srF c f xs) ∧ Below w.heap.size w w'

theorem srF_small {c : Nat → Nat → Int} {f : Nat} {l : List Nat} (h : l.length < 2) : srF c f l = l := by
  cases f with
  | zero => rfl
  | succ f => unfold srF; rw [if_pos h]

set_option maxRecDepth 100000 in
set_option maxHeartbeats 3200000 in
theorem sorted_small (c : Nat → Nat → Int) (f : Nat) (lb : Value) (b off M acap : Nat) (xs : List Nat) (w : World) (h : NtC w (some ⟨b, off, none⟩) acap xs) (hM : xs.length = M) (h2 : M < 2) :
    Calls Try.prog 53 #[.slice (some ⟨b, off, none⟩) M acap, .func (.func 51) #[] #[lb]] w fun e w' => ∃ b' off' cap, e = .returned (.slice (some ⟨b', off', none⟩) M cap) ∧ NtC w' (some ⟨b', off', none⟩) cap (srF c f xs) ∧ Below w.heap.size w w' := by
  have HF : Hid (srF c f xs = xs) := srF_small (by omega)
  have HN := Hid.mk h
  have hl : (M : Int) < 2 := by omega
  clear h hM
  go_enter Try.func53, Try.ntmps53
  go_wp2_with fail
  go_ret
  exact ⟨b, off, acap, rfl, by rw [HF.out]; exact HN.out, Below.refl _ _⟩

set_option maxRecDepth 100000 in
set_option maxHeartbeats 3200000 in
theorem w_sorted (c : Nat → Nat → Int) (P : Nat → Prop) (lb : Value) : ∀ f, SrOk c P lb f
  | 0 => fun b off M acap xs w h hM hf hx hP HC => sorted_small c 0 lb b off M acap xs w h hM (by omega)
  | f + 1 => by
    intro b off M acap xs w h hM hf hx hP HC
    by_cases h2 : M < 2
    · exact sorted_small c (f + 1) lb b off M acap xs w h hM h2
    have ih := w_sorted c P lb f
    obtain ⟨H, hH⟩ : ∃ H, M / 2 = H := ⟨_, rfl⟩
    have hH1 : H < M := by omega
    have hH0 : 0 < H := by omega
    have hfit := h.fit
    have hcap : ¬ acap = H := by omega
    have HR : Hid (srF c (f + 1) xs = mg c (srF c f (xs.take H)) (srF c f (xs.drop H))) := by
      show _ = _
      conv => lhs; unfold srF
      rw [if_neg (by omega), hM, hH]
    have HL1 : Hid ((xs.take H).length = H) := by show _ = _; rw [List.length_take]; omega
    have HL2 : Hid ((xs.drop H).length = M - H) := by show _ = _; rw [List.length_drop]; omega
    have HS1 := Hid.mk (fun u (hb : Below w.heap.size w u) => ih b off H acap (xs.take H) u ((h.take (by omega)).keep hb) HL1.out (by omega) (by omega) (fun x hx => hP x (List.mem_of_mem_take hx)) (fun v hv => HC v (hb.trans (hv.mono hb.size))))
    have HS2 := Hid.mk (fun u (hb : Below w.heap.size w u) => ih b (off + H) (M - H) (acap - H) (xs.drop H) u ((h.drop (by omega)).keep hb) HL2.out (by omega) (by omega) (fun x hx => hP x (List.mem_of_mem_drop hx)) (fun v hv => HC v (hb.trans (hv.mono hb.size))))
    have HMg := Hid.mk (fun u (hb : Below w.heap.size w u) s1 c1 s2 c2 (n1 : NtC u s1 c1 (srF c f (xs.take H))) (n2 : NtC u s2 c2 (srF c f (xs.drop H))) => w_merged c P lb s1 H c1 s2 (M - H) c2 _ _ u n1 n2 (by rw [srF_len]; exact HL1.out) (by rw [srF_len]; exact HL2.out) (by omega) (fun x hx => hP x (List.mem_of_mem_take ((srF_perm c f _).mem_iff.1 hx))) (fun x hx => hP x (List.mem_of_mem_drop ((srF_perm c f _).mem_iff.1 hx))) (Hid.mk fun v hv => HC v (hb.trans (hv.mono hb.size))))
    have HW := Hid.mk (Below.refl w.heap.size w)
    have HMM : Hid (H + (M - H) = M) := by show _ = _; omega
    have hq : (M : Int).tdiv 2 = (H : Int) := by rw [Int.tdiv_eq_ediv_of_nonneg (by omega)]; omega
    have hq2 : (M : Int) / 2 = (H : Int) := by omega
    have hl : ¬ (M : Int) < 2 := by omega
    have k1 : (H : Int) ≤ (M : Int) := by omega
    have k0 : (0 : Int) ≤ (H : Int) := by omega
    have k2 : (H : Int) ≤ (acap : Int) := by omega
    have k3 : (M : Int) ≤ (acap : Int) := by omega
    clear h hM ih hP HC hH h2 hfit
    go_enter Try.func53, Try.ntmps53
    go_wp2_with fail
    trace_state
    go_region_held3 (fun _ => True) (trivial) (first
      | (go_at_call_of 53 (Value.slice (some (⟨b, off, none⟩ : Addr)) H acap); refine (HS1.out _ (by first | exact HW.out | exact HW.out.drew)).mono ?_; rintro e w1 ⟨sb1, so1, c1, rfl, n1, b1⟩; have HN1 := Hid.mk n1; have HW : Hid (Below w.heap.size w w1) := (by first | exact HW.out.trans (b1.mono HW.out.size) | exact HW.out.trans ((belD b1).mono HW.out.size)); clear n1 b1)
      | (go_at_call_of 53 (Value.slice (some (⟨b, off + H, none⟩ : Addr)) (M - H) (acap - H)); refine (HS2.out _ (by first | exact HW.out | exact HW.out.drew)).mono ?_; rintro e w2 ⟨sb2, so2, c2, rfl, n2, b2⟩; have HN2 := Hid.mk n2; have HN1 : Hid (NtC w2 (some ⟨sb1, so1, none⟩) c1 (srF c f (xs.take H))) := (by first | exact HN1.out.keep b2 | exact HN1.out.keep (belD b2)); have HW : Hid (Below w.heap.size w w2) := (by first | exact HW.out.trans (b2.mono HW.out.size) | exact HW.out.trans ((belD b2).mono HW.out.size)); clear n2 b2)
      | (go_at_call 68; refine (HMg.out _ (by first | exact HW.out | exact HW.out.drew) _ _ _ _ (by first | exact HN1.out | exact HN1.out.drew) (by first | exact HN2.out | exact HN2.out.drew)).mono ?_; rintro e w3 ⟨c3, rfl, n3, b3⟩; have HN3 := Hid.mk n3; have HW : Hid (Below w.heap.size w w3) := (by first | exact HW.out.trans (b3.mono HW.out.size) | exact HW.out.trans ((belD b3).mono HW.out.size)); clear n3 b3))
    all_goals go_wp2_with fail
    go_ret
    exact ⟨_, _, c3, congrArg (fun n => Ending.returned (Value.slice (some ⟨w2.heap.size, 0, none⟩) n c3)) HMM.out, by rw [HR.out]; exact HN3.out, HW.out⟩
end Go.Proofs.Ytmknelkgfnklfaa
namespace Go.Proofs.Ytmknelkgfnklfaa
open Go.RowKit Go.Shelf Go.Sort
set_option linter.unusedVariables false
set_option linter.unusedSimpArgs false
attribute [local go_sem] Oper.semAt_some

theorem Try.infoIs : (Try.prog.info? 50).map (fun i => (i.zero, i.size, i.bytes)) = some (some (.slice none 0 0), 1, 24) := by kernel_rfl

theorem own_baseZ {w : World} {base : Nat} {e : TypeId} {size : Nat} {v : Value} {n : Nat} {xs : List Value} (h : w.ownsRow base e size v n xs) : ∀ k, v.ownBlock = some k → base ≤ k := by
  intro k hk
  obtain ⟨_, ⟨rfl, _⟩ | ⟨g, cap, cur, rfl, hg, _⟩⟩ := h
  · cases hk
  · simp [Value.ownBlock] at hk; omega
theorem own_shapeZ {w : World} {base : Nat} {e : TypeId} {size : Nat} {v : Value} {n : Nat} {xs : List Value} (h : w.ownsRow base e size v n xs) : ∃ so sc, v = .slice so n sc := by
  rcases h.2 with ⟨e, h0⟩ | ⟨g, cap, cur, e, _⟩
  · exact ⟨none, 0, by rw [e, h0]⟩
  · exact ⟨_, _, e⟩
theorem own_succZ {w : World} {base : Nat} {e : TypeId} {size : Nat} {v : Value} {n : Nat} {xs : List Value} (h : w.ownsRow base e size v (n + 1) xs) : ∃ g cap, v = .slice (some ⟨g, 0, none⟩) (n + 1) cap := by
  rcases h.2 with ⟨e, h0⟩ | ⟨g, cap, cur, e, _⟩
  · omega
  · exact ⟨_, _, e⟩

/-- a slice of slices of places, as it lies -/
structure RnC (w : World) (so : Option Addr) (cap : Nat) (gs : List (List Nat)) : Prop where
  fit : gs.length ≤ cap
  row : 0 < gs.length → ∃ b off, so = some ⟨b, off, none⟩ ∧ b < w.heap.size ∧ ∀ i, (hi : i < gs.length) → ∃ ao ac, w.cell? ⟨b, off + i, none⟩ = some (.slice ao gs[i].length ac) ∧ NtC w ao ac gs[i]
theorem RnC.keep {w w' : World} {so : Option Addr} {cap : Nat} {gs : List (List Nat)} (h : RnC w so cap gs) (hb : Below w.heap.size w w') : RnC w' so cap gs := by
  refine ⟨h.fit, fun h0 => ?_⟩
  obtain ⟨b, off, e, hl, hc⟩ := h.row h0
  refine ⟨b, off, e, Nat.lt_of_lt_of_le hl hb.size, fun i hi => ?_⟩
  obtain ⟨ao, ac, h1, h2⟩ := hc i hi
  exact ⟨ao, ac, (hb.cell (p := ⟨b, off + i, none⟩) hl).trans h1, h2.keep hb⟩

/-- the cut-out slices -/
def rv (b off acap : Nat) (d : List (Nat × Nat)) : List Value := d.map fun p => .slice (some ⟨b, off + p.1, none⟩) (p.2 - p.1) (acap - p.1)

theorem run_len {l : List Nat} {p : Nat × Nat} (h : p.1 < p.2 ∧ p.2 ≤ l.length) : (run l p).length = p.2 - p.1 := by
  unfold run; rw [List.length_drop, List.length_take]; omega
theorem NtC.run {w : World} {b off cap : Nat} {xs : List Nat} (h : NtC w (some ⟨b, off, none⟩) cap xs) {p : Nat × Nat} (hp : p.1 < p.2 ∧ p.2 ≤ xs.length) : NtC w (some ⟨b, off + p.1, none⟩) (cap - p.1) (run xs p) :=
  (h.take (n := p.2) hp.2).drop (n := p.1) (by rw [List.length_take]; omega)

theorem rn_of_own {w w' : World} {b off acap : Nat} {xs : List Nat} {D : List (Nat × Nat)} {base : Nat} {v : Value} (h : NtC w (some ⟨b, off, none⟩) acap xs) (hb : Below w.heap.size w w') (hD : ∀ p ∈ D, p.1 < p.2 ∧ p.2 ≤ xs.length)
    (ho : w'.ownsRow base 50 1 v D.length (rv b off acap D)) : ∃ so cap, v = .slice so D.length cap ∧ RnC w' so cap (D.map (run xs)) := by
  rcases Nat.eq_zero_or_pos D.length with h0 | h0
  · obtain ⟨so, sc, e⟩ := own_shapeZ ho
    refine ⟨so, sc, e, ⟨?_, fun h1 => absurd h1 (by rw [List.length_map]; omega)⟩⟩
    rw [List.length_map]; omega
  · obtain ⟨n, hn⟩ : ∃ n, D.length = n + 1 := ⟨D.length - 1, by omega⟩
    rw [hn] at ho
    obtain ⟨g, cap, e⟩ := own_succZ ho
    subst e
    have hcap : n + 1 ≤ cap := by
      rcases ho.2 with ⟨h1, _⟩ | ⟨g', cap', cur, h1, hcap, _⟩
      · cases h1
      · simp only [Value.slice.injEq, Option.some.injEq, Addr.mk.injEq] at h1
        omega
    refine ⟨_, cap, by rw [hn], ⟨by rw [List.length_map, hn]; exact hcap, fun _ => ⟨g, 0, rfl, (ho.lt g rfl).2, fun i hi => ?_⟩⟩⟩
    rw [List.length_map] at hi
    have hp := hD D[i] (List.getElem_mem hi)
    refine ⟨some ⟨b, off + D[i].1, none⟩, acap - D[i].1, ?_, ?_⟩
    · rw [Nat.zero_add, own_cellAt ho (by omega)]
      unfold rv
      rw [List.getElem?_map, List.getElem?_eq_getElem hi, List.getElem_map, run_len hp]; rfl
    · rw [List.getElem_map]; exact (h.run hp).keep hb

theorem cutF_succ (c : Nat → Nat → Int) (l : List Nat) (f i b : Nat) : cutF c l (f + 1) i b = if i = l.length ∨ c (l.getD (i - 1) 0) (l.getD i 0) < 0 then (b, i) :: cutF c l f (i + 1) i else cutF c l f (i + 1) b := rfl

/-- what runs holds in its loop -/
structure RnS (w wr : World) (c : Nat → Nat → Int) (l : List Nat) (b off acap : Nat) (k bg : Nat) (D : List (Nat × Nat)) (v : Value) : Prop where
  below : Below w.heap.size w wr
  own : wr.ownsRow w.heap.size 50 1 v D.length (rv b off acap D)
  eq : cut c l = D ++ cutF c l (l.length - k) (k + 1) bg
  dl : D.length ≤ k

set_option maxRecDepth 100000 in
set_option maxHeartbeats 3200000 in
theorem w_runs (c : Nat → Nat → Int) (P : Nat → Prop) (lb : Value) (b off N acap : Nat) (l : List Nat) (w : World) (ha : NtC w (some ⟨b, off, none⟩) acap l) (hN : l.length = N) (hN2 : N ≤ 1100000) (hP : ∀ x ∈ l, P x)
    (HC : Hid (∀ u, Below w.heap.size w u → ∀ i j : Nat, P i → P j → Calls Try.prog 51 #[.int .i64 (i : Int), .int .i64 (j : Int), lb] u fun e w' => e = .returned (.int .i64 (c i j)) ∧ Below u.heap.size u w')) :
    Calls Try.prog 52 #[.slice (some ⟨b, off, none⟩) N acap, .func (.func 51) #[] #[lb]] w fun e w' => ∃ so cap, e = .returned (.slice so (cut c l).length cap) ∧ RnC w' so cap ((cut c l).map (run l)) ∧ Below w.heap.size w w' := by
  obtain ⟨i0, hi0, hz0, hz1, hz2⟩ := info_parts Try.infoIs
  have HA := Hid.mk ha
  have HNN := Hid.mk hN
  have HP := Hid.mk hP
  have hfit := ha.fit
  rw [hN] at hfit
  clear ha hN hP
  obtain ⟨CL, HCL⟩ : ∃ CL, Hid (cut c l = CL) := ⟨_, rfl⟩
  rw [HCL.out]
  go_enter Try.func52, Try.ntmps52
  go_wp2_with fail
  go_loopw [5, 6, 7] (fun vo vb vi wr => ∃ (k bg : Nat) (D : List (Nat × Nat)), k ≤ N ∧ bg ≤ k ∧ vb = .int .i64 (bg : Int) ∧ vi = .int .i64 ((k : Int) + 1) ∧ Hid (RnS w wr c l b off acap k bg D vo)) (fun _ _ vi _ => N + 1 - (intOf vi).toNat)
  case atStart => exact ⟨0, 0, [], Nat.zero_le _, Nat.le_refl _, rfl, rfl, ⟨Below.refl _ _, World.ownsRow_nil _ _ _ _, rfl, Nat.le_refl _⟩⟩
  case round =>
    obtain ⟨k, bg, D, hk, hbg, rfl, rfl, HS⟩ := hrel
    by_cases hlt : k < N
    · have hl1 : (k : Int) + 1 ≤ (N : Int) := by omega
      have hll : l.length - k = (N - (k + 1)) + 1 := by rw [HNN.out]; omega
      have hE := HS.out.eq
      rw [hll] at hE
      obtain ⟨b', off', e, hbl, hrow⟩ := (HA.out.keep HS.out.below).row (by rw [HNN.out]; omega)
      simp only [Option.some.injEq, Addr.mk.injEq] at e
      obtain ⟨rfl, rfl, _⟩ := e
      obtain ⟨so, sc, hv⟩ := own_shapeZ HS.out.own
      subst hv
      have i1 : (0 : Int) ≤ (bg : Int) := by omega
      have i2 : (bg : Int) ≤ (k : Int) + 1 := by omega
      have i3 : (0 : Int) ≤ (k : Int) + 1 := by omega
      have i4 : (k : Int) + 1 ≤ (acap : Int) := by omega
      have i5 : ¬ acap = bg := by omega
      -- one run more
      have HApp : Hid (∀ (wx w3 : World) (o : Obj) (v3 : Value), Below wr.heap.size wr wx → (wx.alloc o).grownBy w3 (Value.slice so D.length sc).ownBlock → w3.ownsRow w.heap.size 50 1 v3 (D.length + 1) (rv b off acap D ++ [.slice (some ⟨b, off + bg, none⟩) (k + 1 - bg) (acap - bg)]) → (k + 1 = N ∨ c (l.getD k 0) (l.getD (k + 1) 0) < 0) → RnS w w3 c l b off acap (k + 1) (k + 1) (D ++ [(bg, k + 1)]) v3) := fun wx w3 o v3 hb hg ho hc => by
        have hs := HS.out.below.size
        have hs2 := hb.size
        refine ⟨((HS.out.below.trans (hb.mono hs)).alloc (by omega) o).grown hg (by simp; omega) (own_baseZ HS.out.own), ?_, ?_, ?_⟩
        · rw [List.length_append]; unfold rv at ho ⊢; rw [List.map_append]; exact ho
        · rw [hE, cutF_succ, if_pos (by rw [HNN.out]; exact hc), List.append_assoc, show l.length - (k + 1) = N - (k + 1) from by rw [HNN.out]]; rfl
        · have := HS.out.dl; rw [List.length_append]; simp; omega
      by_cases hkN : k + 1 = N
      · have g1 : ((k : Int) + 1 == (N : Int)) = true := by rw [beq_iff_eq]; omega
        have g2 : (k : Int) + 1 = (N : Int) := by omega
        have HkN := Hid.mk hkN
        clear hrow hbl hkN
        go_wp2_with fail
        clear g2
        refine wp_region_quiet_below (by kernel_rfl) (by kernel_rfl) ?_
        repeat (go_big_quiet_step (fail))
        refine wpQuiet_nil ?_
        intro w2 hw'
        have HB2 : Hid (Below wr.heap.size wr w2) := by
          obtain ⟨⟨dq, osq⟩, rfl⟩ := hw'
          exact below_regrown wr dq osq
        clear hw' g1
        have hsz2 := HB2.out.size
        have hsz := HS.out.below.size
        have hdl := HS.out.dl
        have hnb : D.length + 1 ≤ maxLen := by unfold maxLen; omega
        go_wp2_with (at_builtin; go_loud (refine wpList_append_lies _ rfl _ _ 46 rfl w.heap.size 50 i0 (.slice none 0 0) 1 24 Try.underlying46 hi0 hz0 hz1 hz2 rfl (by decide) _ _ _ rfl ((own_low HS.out.own HB2.out).alloc _) ⟨w2.heap.size, 0, none⟩ 1 1 [.slice (some ⟨b, off + bg, none⟩) (k + 1 - bg) (acap - bg)] rfl rfl (World.news_of_block (cs := #[.slice (some ⟨b, off + bg, none⟩) (k + 1 - bg) (acap - bg)]) (t := 50) (fr := (0, 0)) (heap_alloc_new w2 _)) (by simp [Value.oneCell']) (by omega) hnb (by omega) (by simp; omega) (w2.heap.size + 1) (by simp) ?_; intro g3 cap3 w3 hown3 hgrow3 hat3 hlt3))
        have HN := Hid.mk (HApp.out w2 w3 _ _ HB2.out hgrow3 hown3 (.inl HkN.out))
        clear hown3 hgrow3 hat3 hlt3 HApp hdl hnb
        go_wp2_with fail
        go_roundw
        case rel => exact ⟨k + 1, k + 1, _, by omega, Nat.le_refl _, by go_num, by go_num, HN⟩
        case measure => simp [intOf]; omega
      · have g1 : ((k : Int) + 1 == (N : Int)) = false := by rw [beq_eq_false_iff_ne]; omega
        have g2 : ¬ (k : Int) + 1 = (N : Int) := by omega
        have c0 := hrow k (by rw [HNN.out]; omega)
        have c1 := hrow (k + 1) (by rw [HNN.out]; omega)
        have p0 : P (l.getD k 0) := by
          have e : l.getD k 0 = l[k]'(by rw [HNN.out]; omega) := by simp [List.getD, HNN.out, hlt]
          rw [e]; exact HP.out _ (List.getElem_mem _)
        have p1 : P (l.getD (k + 1) 0) := by
          have e : l.getD (k + 1) 0 = l[k + 1]'(by rw [HNN.out]; omega) := by simp [List.getD, HNN.out, show k + 1 < N by omega]
          rw [e]; exact HP.out _ (List.getElem_mem _)
        have HCC := Hid.mk (fun (d : Nat) (os : Array Obj) => HC.out (grow (redrawn wr d) os) (HS.out.below.trans ((below_regrown wr d os).mono HS.out.below.size)) _ _ p0 p1)
        have HNo : Hid (¬ c (l.getD k 0) (l.getD (k + 1) 0) < 0 → ∀ w2, Below wr.heap.size wr w2 → RnS w w2 c l b off acap (k + 1) bg D (.slice so D.length sc)) := fun hc w2 hb => by
          have hs := HS.out.below.size
          refine ⟨HS.out.below.trans (hb.mono hs), own_low HS.out.own hb, ?_, ?_⟩
          · rw [hE, cutF_succ, if_neg (by rw [HNN.out]; exact fun h => h.elim hkN hc), show l.length - (k + 1) = N - (k + 1) from by rw [HNN.out]]
          · have := HS.out.dl; omega
        generalize l.getD (k + 1) 0 = y at *
        generalize l.getD k 0 = x at *
        generalize hz : c x y = z at *
        clear hz p0 p1 hrow hbl hE hll
        have j1 : (k : Int) < (N : Int) := by omega
        have j2 : (0 : Int) ≤ (k : Int) := by omega
        have j3 : (k : Int) + 1 < (N : Int) := by omega
        have R0 := fun d os => cell_regrown c0 d os
        have R1 := fun d os => cell_regrown c1 d os
        clear c0 c1
        go_wp2_with fail
        refine wp_region_quiet_below (by kernel_rfl) (by kernel_rfl) ?_
        repeat (go_big_quiet_step (exact Calls.regrown_of (HCC.out _ _)))
        refine wpQuiet_nil ?_
        intro w2 hw'
        have HB2 : Hid (Below wr.heap.size wr w2) := by
          obtain ⟨⟨dq, osq⟩, rfl⟩ := hw'
          exact below_regrown wr dq osq
        clear hw'
        clear R0 R1 HCC
        by_cases hz : z < 0
        · clear HNo
          have hsz2 := HB2.out.size
          have hsz := HS.out.below.size
          have hdl := HS.out.dl
          have hnb : D.length + 1 ≤ maxLen := by unfold maxLen; omega
          go_wp2_with (at_builtin; go_loud (refine wpList_append_lies _ rfl _ _ 46 rfl w.heap.size 50 i0 (.slice none 0 0) 1 24 Try.underlying46 hi0 hz0 hz1 hz2 rfl (by decide) _ _ _ rfl ((own_low HS.out.own HB2.out).alloc _) ⟨w2.heap.size, 0, none⟩ 1 1 [.slice (some ⟨b, off + bg, none⟩) (k + 1 - bg) (acap - bg)] rfl rfl (World.news_of_block (cs := #[.slice (some ⟨b, off + bg, none⟩) (k + 1 - bg) (acap - bg)]) (t := 50) (fr := (0, 0)) (heap_alloc_new w2 _)) (by simp [Value.oneCell']) (by omega) hnb (by omega) (by simp; omega) (w2.heap.size + 1) (by simp) ?_; intro g3 cap3 w3 hown3 hgrow3 hat3 hlt3))
          have HN := Hid.mk (HApp.out w2 w3 _ _ HB2.out hgrow3 hown3 (.inr hz))
          clear hown3 hgrow3 hat3 hlt3 HApp hdl hnb
          go_wp2_with fail
          go_roundw
          case rel => exact ⟨k + 1, k + 1, _, by omega, Nat.le_refl _, by go_num, by go_num, HN⟩
          case measure => simp [intOf]; omega
        · have HN := Hid.mk (HNo.out (by omega) w2 HB2.out)
          clear HApp HNo
          go_wp2_with fail
          go_roundw
          case rel => exact ⟨k + 1, bg, D, by omega, by omega, rfl, by go_num, HN⟩
          case measure => simp [intOf]; omega
    · have hl1 : ¬ (k : Int) + 1 ≤ (N : Int) := by omega
      have e : l.length - k = 0 := by rw [HNN.out]; omega
      have hE := HS.out.eq
      rw [e] at hE
      have hD : cut c l = D := by rw [hE]; exact List.append_nil _
      have HF := Hid.mk (rn_of_own HA.out HS.out.below (fun p hp => cut_in c l (by rw [hD]; exact hp)) HS.out.own)
      obtain rfl : D = CL := hD.symm.trans HCL.out
      clear hD hE e
      obtain ⟨so, cap, hv, hR⟩ := HF.out
      subst hv
      have HRR := Hid.mk hR
      clear hR HF
      go_wp2_with fail
      go_ret
      exact ⟨so, cap, rfl, HRR.out, HS.out.below⟩
end Go.Proofs.Ytmknelkgfnklfaa
namespace Go.Proofs.Ytmknelkgfnklfaa
open Go.RowKit Go.Shelf Go.Sort
set_option linter.unusedVariables false
set_option linter.unusedSimpArgs false
attribute [local go_sem] Oper.semAt_some

/-- the groups' places -/
def grp (h : Nat) (ks : List VT) : List (List Nat) := (cut (cK h ks) (srt (cK h ks) ks.length)).map (run (srt (cK h ks) ks.length))
/-- what is refused, and why -/
def gpE (h : Nat) (ls ks : List VT) : Int := if (ls.all (formN h) && ks.all (formN h)) = true then (if ls.length = ks.length then 0 else 2) else 1
def gpL (h : Nat) (ls ks : List VT) : List (List Nat) := if gpE h ls ks = 0 then grp h ks else []

theorem RnC.none (w : World) : RnC w Option.none 0 [] := ⟨Nat.le_refl _, fun h => absurd h (Nat.lt_irrefl _)⟩

set_option maxRecDepth 100000 in
set_option maxHeartbeats 3200000 in
theorem w_grouped (h : Nat) (io : Option Addr) (N icap : Nat) (ko : Option Addr) (K kcap : Nat) (ls ks : List VT) (w : World) (hi : IIn w h io ls) (hN : ls.length = N) (hcap : N ≤ icap) (hN2 : N ≤ 1048576) (hk : IIn w h ko ks) (hK : ks.length = K) (hkcap : K ≤ kcap) (hK2 : K ≤ 1048576) :
    Calls Try.prog 29 #[.slice io N icap, .slice ko K kcap] w fun e w' => ∃ so cap, e = .returned (.tuple #[.slice so (gpL h ls ks).length cap, .int .i64 (gpE h ls ks)]) ∧ RnC w' so cap (gpL h ls ks) ∧ Below w.heap.size w w' := by
  obtain ⟨w1, hw1⟩ : ∃ w1, w.alloc (.cells #[.slice ko K kcap] 22) = w1 := ⟨_, rfl⟩
  have HBx : Hid (Below w.heap.size w w1) := by subst hw1; exact below1 _ _
  have HX : Hid (∀ u, Below w1.heap.size w1 u → u.cell? ⟨w.heap.size, 0, none⟩ = some (.slice ko K kcap)) := fun u hb => by
    subst hw1
    exact (hb.cell (p := ⟨w.heap.size, 0, none⟩) (by simp)).trans (cell_of_row _ _ 0 _ _ _ (heap_alloc_new w _))
  have HI := Hid.mk (hi.keep HBx.out)
  have HKI := Hid.mk (hk.keep HBx.out)
  have HNN := Hid.mk hN
  have HKK := Hid.mk hK
  have HF := Hid.mk (fun u (hb : Below w1.heap.size w1 u) => w_oFormed h io N icap ls u (HI.out.keep hb) HNN.out hcap (by omega))
  have HG := Hid.mk (fun u (hb : Below w1.heap.size w1 u) => w_oFormed h ko K kcap ks u (HKI.out.keep hb) HKK.out hkcap (by omega))
  clear hi hN hk hK
  cases hf : ls.all (formN h) with
  | false =>
    have hE : gpE h ls ks = 1 := by unfold gpE; rw [hf, Bool.false_and, if_neg (by simp)]
    have hL : gpL h ls ks = [] := by unfold gpL; rw [hE, if_neg (by decide)]
    rw [hE, hL]
    rw [hf] at HF
    clear hf HG hE hL
    have y0 := HX.out w1 (Below.refl _ _)
    go_enter Try.func29, Try.ntmps29
    go_wp2_with fail
    try simp only [hw1]
    clear hw1
    refine (HF.out w1 (Below.refl _ _)).mono ?_
    rintro e w2 ⟨rfl, hb2⟩
    have HB2 := Hid.mk (below_more HBx.out hb2)
    clear hb2 y0
    go_wp2_with fail
    go_ret2
    exact ⟨none, 0, rfl, .none _, HB2.out⟩
  | true =>
    rw [hf] at HF
    cases hg : ks.all (formN h) with
    | false =>
      have hE : gpE h ls ks = 1 := by unfold gpE; rw [hf, hg, Bool.and_false, if_neg (by simp)]
      have hL : gpL h ls ks = [] := by unfold gpL; rw [hE, if_neg (by decide)]
      rw [hE, hL]
      rw [hg] at HG
      clear hf hg hE hL
      go_enter Try.func29, Try.ntmps29
      go_wp2_with fail
      try simp only [hw1]
      clear hw1
      refine (HF.out w1 (Below.refl _ _)).mono ?_
      rintro e w2 ⟨rfl, hb2⟩
      have HB1 := Hid.mk hb2
      have y0 := HX.out w2 hb2
      clear hb2
      go_wp2_with fail
      refine (HG.out w2 HB1.out).mono ?_
      rintro e w3 ⟨rfl, hb3⟩
      have HB3 := Hid.mk (below_more HBx.out (HB1.out.trans (hb3.mono HB1.out.size)))
      clear hb3 y0
      go_wp2_with fail
      go_ret2
      exact ⟨none, 0, rfl, .none _, HB3.out⟩
    | true =>
      rw [hg] at HG
      by_cases hNK : N = K
      · have hE : gpE h ls ks = 0 := by unfold gpE; rw [hf, hg, Bool.and_true, if_pos rfl, if_pos (by rw [HNN.out, HKK.out, hNK])]
        have hL : gpL h ls ks = grp h ks := by unfold gpL; rw [hE, if_pos rfl]
        rw [hE, hL]
        subst hNK
        have HC := Hid.mk (fun u (hb : Below w1.heap.size w1 u) (i j : Nat) (h1 : i < N) (h2 : j < N) => w_byKey h ko N kcap ks u (HKI.out.keep hb) HKK.out hkcap w.heap.size (HX.out u hb) i j h1 h2)
        have HPl := Hid.mk (fun u (hb : Below w1.heap.size w1 u) => w_places N u (by omega))
        have HSo := Hid.mk (fun u (hb : Below w1.heap.size w1 u) b cap (hn : NtC u (some ⟨b, 0, none⟩) cap (List.range N)) => w_sorted (cK h ks) (· < N) (.pointer (some ⟨w.heap.size, 0, none⟩)) N b 0 N cap (List.range N) u hn List.length_range (Nat.le_refl _) (by omega) (fun x hx => List.mem_range.1 hx) (fun v hv i j h1 h2 => HC.out v (hb.trans (hv.mono hb.size)) i j h1 h2))
        have HRu : Hid (∀ u, Below w1.heap.size w1 u → ∀ b off cap, NtC u (some ⟨b, off, none⟩) cap (srt (cK h ks) N) → Calls Try.prog 52 #[.slice (some ⟨b, off, none⟩) N cap, .func (.func 51) #[] #[.pointer (some ⟨w.heap.size, 0, none⟩)]] u fun e w' => ∃ so cap, e = .returned (.slice so (grp h ks).length cap) ∧ RnC w' so cap (grp h ks) ∧ Below u.heap.size u w') := fun u hb b off cap hn => by
          have hr := w_runs (cK h ks) (· < N) (.pointer (some ⟨w.heap.size, 0, none⟩)) b off N cap _ u hn (srt_len ..) (by omega) (fun x hx => srt_lt hx) (Hid.mk fun v hv i j h1 h2 => HC.out v (hb.trans (hv.mono hb.size)) i j h1 h2)
          refine hr.mono ?_
          rintro e w' ⟨so, cap', rfl, h1, h2⟩
          have e1 : (cut (cK h ks) (srt (cK h ks) N)).map (run (srt (cK h ks) N)) = grp h ks := by unfold grp; rw [HKK.out]
          rw [e1] at h1
          refine ⟨so, cap', ?_, h1, h2⟩
          rw [← e1, List.length_map]
        generalize hgr : grp h ks = G at *
        clear hf hg hE hL hgr
        have y1 : ((N : Int) != (N : Int)) = false := by simp
        go_enter Try.func29, Try.ntmps29
        go_wp2_with fail
        try simp only [hw1]
        clear hw1
        refine (HF.out w1 (Below.refl _ _)).mono ?_
        rintro e w2 ⟨rfl, hb2⟩
        have HB1 := Hid.mk hb2
        have y0 := HX.out w2 hb2
        clear hb2
        go_wp2_with fail
        refine (HG.out w2 HB1.out).mono ?_
        rintro e w3 ⟨rfl, hb3⟩
        have HB3 := Hid.mk (HB1.out.trans (hb3.mono HB1.out.size))
        clear hb3 y0
        have y0 := HX.out w3 HB3.out
        go_wp2_with fail
        refine (HPl.out w3 HB3.out).mono ?_
        rintro e w4 ⟨rfl, hn4, hb4⟩
        have HB4 := Hid.mk (HB3.out.trans (hb4.mono HB3.out.size))
        have HN4 := Hid.mk hn4
        clear hb4 hn4 y0
        go_wp2_with fail
        refine (HSo.out w4 HB4.out _ _ HN4.out).mono ?_
        rintro e w5 ⟨b5, o5, c5, rfl, hn5, hb5⟩
        have HB5 := Hid.mk (HB4.out.trans (hb5.mono HB4.out.size))
        have HN5 := Hid.mk hn5
        clear hb5 hn5
        go_wp2_with fail
        refine (HRu.out w5 HB5.out _ _ _ HN5.out).mono ?_
        rintro e w6 ⟨so, c6, rfl, hn6, hb6⟩
        have HB6 := Hid.mk (below_more HBx.out (HB5.out.trans (hb6.mono HB5.out.size)))
        have HN6 := Hid.mk hn6
        clear hb6 hn6
        go_wp2_with fail
        go_ret2
        exact ⟨so, c6, rfl, HN6.out, HB6.out⟩
      · have hE : gpE h ls ks = 2 := by unfold gpE; rw [hf, hg, Bool.and_true, if_pos rfl, if_neg (by rw [HNN.out, HKK.out]; exact hNK)]
        have hL : gpL h ls ks = [] := by unfold gpL; rw [hE, if_neg (by decide)]
        rw [hE, hL]
        have y1 : ((N : Int) != (K : Int)) = true := by simp; omega
        have y2 : ¬ (N : Int) = (K : Int) := by omega
        clear hf hg hE hL
        go_enter Try.func29, Try.ntmps29
        go_wp2_with fail
        try simp only [hw1]
        clear hw1
        refine (HF.out w1 (Below.refl _ _)).mono ?_
        rintro e w2 ⟨rfl, hb2⟩
        have HB1 := Hid.mk hb2
        have y0 := HX.out w2 hb2
        clear hb2
        go_wp2_with fail
        refine (HG.out w2 HB1.out).mono ?_
        rintro e w3 ⟨rfl, hb3⟩
        have HB3 := Hid.mk (HB1.out.trans (hb3.mono HB1.out.size))
        have HB3' := Hid.mk (below_more HBx.out HB3.out)
        clear hb3 y0
        have y0 := HX.out w3 HB3.out
        go_wp2_with fail
        go_ret2
        exact ⟨none, 0, rfl, .none _, HB3'.out⟩
end Go.Proofs.Ytmknelkgfnklfaa
