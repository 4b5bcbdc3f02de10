import Derived.Test.YtohclfgghobldaaDoorM23
import Derived.Test.YtohclfgghobldaaDoorM28
import Derived.Deep.Cut
import Derived.BigQuiet
import Derived.Test.YtohclfgghobldaaDoorM22
namespace Go.Proofs.YtohclfgghobldaaDoor
open Go.RowKit Go.Shelf
set_option linter.unusedVariables false
set_option linter.unusedSimpArgs false

/-- what Scan answers -/
def ScR (l : List UInt8) (w w' : World) (e : Ending) : Prop :=
  (((∀ t ∈ scW l, t.err = 0) ∧ ∃ so sc, e = .returned (.tuple #[.slice so (scW l).length sc, .int .i64 0, .int .i64 0]) ∧ Hid (w'.ownsRow w.heap.size 23 4 (.slice so (scW l).length sc) (scW l).length (flT (scW l)))) ∨ (∃ pre x, scW l = pre ++ [x] ∧ x.err ≠ 0 ∧ e = .returned (.tuple #[.slice none 0 0, .int .i64 (x.err : Int), .int .i64 (x.at_ : Int)]))) ∧ Below w.heap.size w w'
/-- while Scan goes along -/
structure ScS (w : World) (s : ByteArray) (l : List UInt8) (W : World) (vt v : Value) (n q : Nat) (pre : List Tok) (op : List Nat) : Prop where
  len : pre.length = n
  own : W.ownsRow w.heap.size 23 4 vt n (flT pre)
  cut : CtW w.heap.size w.heap.size s v op W
  below : Below w.heap.size w W
  rest : scW l = pre ++ scF l (l.length + 1) q op
  ok : ∀ t ∈ pre, t.err = 0
  few : n ≤ q
  opn : ∀ x ∈ op, x ≤ q
  opl : op.length ≤ q
theorem ScS.row {w : World} {s : ByteArray} {l : List UInt8} {W W' : World} {vt v v' : Value} {n q : Nat} {pre : List Tok} {op : List Nat} (h : ScS w s l W vt v n q pre op) (hL : CtL w.heap.size v.ownBlock W W') : W'.ownsRow w.heap.size 23 4 vt n (flT pre) := by
  refine ⟨h.own.1, ?_⟩
  rcases h.own.2 with h1 | ⟨g, cap, cur, rfl, e2, e3, rest⟩
  · exact .inl h1
  · refine .inr ⟨g, cap, cur, rfl, e2, (hL.block g (Array.getElem?_eq_some_iff.1 e3).1 (fun e => ?_) (own_typeW h.cut.row e3 (by decide))).trans e3, rest⟩
    have hb := h.cut.box
    unfold CtB at hb
    rw [← e, e3] at hb
    simp at hb

theorem CtW.grown {B C : Nat} {s : ByteArray} {v vt : Value} {op : List Nat} {W w5 : World} {o : Obj} {n : Nat} {xs : List Value} (h : CtW B C s v op W) (ho : W.ownsRow B 23 4 vt n xs) (hg : (W.alloc o).grownBy w5 vt.ownBlock) : CtW B C s v op w5 := by
  have hlt := h.box.lt
  refine ⟨(hg.block C (by simp; omega) (fun e => own_typeW ho h.box (by decide) e.symm)).trans ((Below.heap_alloc _ _ _ hlt).trans h.box), h.row.1, ?_⟩
  rcases h.row.2 with h1 | ⟨g, cap, cur, rfl, e2, e3, rest⟩
  · exact .inl h1
  · have hgl := (Array.getElem?_eq_some_iff.1 e3).1
    exact .inr ⟨g, cap, cur, rfl, e2, (hg.block g (by simp; omega) (fun e => own_typeW ho e3 (by decide) e.symm)).trans ((Below.heap_alloc _ _ _ hgl).trans e3), rest⟩

set_option maxRecDepth 100000 in
set_option maxHeartbeats 6400000 in
theorem w_wScan (s : ByteArray) (w : World) (ss : s.size ≤ 16777216) (hE : ErrIn w) :
    Calls Tryd.prog 9 #[.string s] w fun e w' => ScR s.data.toList w w' e := by
  obtain ⟨i0, hi0, hz0, hz1, hz2⟩ := info_parts Tryd.infoTok
  have HI0 := Hid.mk (fun u => w_idle s 0 u (Nat.zero_le _) (by omega))
  have HId : Hid (∀ q u, q ≤ s.size → Calls Tryd.prog 12 #[.string s, .int .i64 (q : Int)] u fun e w' => e = .returned (.int .i64 ((idW s.data.toList q : Nat) : Int)) ∧ w' = u) := fun q u hq => w_idle s q u hq (by omega)
  have HTk : Hid (∀ (p : Nat) (v : Value) (op : List Nat) (u : World), p < s.size → CtW w.heap.size w.heap.size s v op u → (∀ x ∈ op, x ≤ 1099511627776) → op.length ≤ 1099511627776 → ErrIn u → Calls Tryd.prog 13 #[.pointer (some ⟨w.heap.size, 0, none⟩), .int .i64 (p : Int)] u fun e w' => CtP w.heap.size w.heap.size s v op (tokW s.data.toList op p) u w' e) := fun p v op u hp hC h1 h2 hEu => w_token _ _ s p v op u hp (by omega) hC (Nat.le_refl _) h1 h2 hEu
  obtain ⟨l, hl⟩ : ∃ l, l = s.data.toList := ⟨_, rfl⟩
  have HL : Hid (l.length = s.size) := by show _ = _; rw [hl]; exact size_lst s
  rw [← hl] at HI0 HId HTk ⊢
  clear hl
  have hq0 := idW_ge (l := l) (p := 0) (Nat.zero_le _)
  rw [HL.out] at hq0
  have HSW : Hid (scW l = [] ++ scF l (l.length + 1) (idW l 0) []) := rfl
  generalize idW l 0 = q0 at *
  have HE := Hid.mk hE
  clear hE
  go_enter Tryd.func9, Tryd.ntmps9
  go_wp2_with fail
  refine (HI0.out _).mono ?_
  rintro e wq ⟨rfl, hwq⟩
  obtain rfl := hwq.symm
  have hb0 := below1 w (.cells #[.string s, .slice none 0 0] 36)
  have hx0 := heap_alloc_new w (.cells #[.string s, .slice none 0 0] 36)
  obtain ⟨W0, hW0⟩ : ∃ W0, w.alloc (.cells #[.string s, .slice none 0 0] 36) = W0 := ⟨_, rfl⟩
  rw [hW0] at hb0 hx0
  have HS0 : Hid (ScS w s l W0 (.slice none 0 0) (.slice none 0 0) 0 q0 [] []) := ⟨rfl, World.ownsRow_nil _ _ _ _, ⟨hx0, World.ownsRow_nil _ _ _ _⟩, hb0, HSW.out, (fun t ht => by cases ht), Nat.zero_le _, (fun x hx => by cases hx), Nat.zero_le _⟩
  rw [hW0]
  clear hb0 hx0 hW0 HI0
  go_wp2_with fail
  go_loopw [5, 7] (fun vt va wr => ∃ (q n : Nat) (so : Option Addr) (sc : Nat) (v : Value) (pre : List Tok) (op : List Nat), q ≤ s.size ∧ va = .int .i64 (q : Int) ∧ vt = .slice so n sc ∧ Hid (ScS w s l wr (.slice so n sc) v n q pre op)) (fun _ a _ => s.size - (intOf a).toNat)
  case atStart => exact ⟨q0, 0, none, 0, .slice none 0 0, [], [], hq0.2, rfl, rfl, HS0⟩
  case round =>
    clear HS0 HSW hq0
    obtain ⟨q, n, so, sc, v, pre, op, hq, rfl, rfl, HS⟩ := hrel
    by_cases hlt : q < s.size
    · have hi1 : (q : Int) < (s.size : Int) := by omega
      have hql : q < l.length := by rw [HL.out]; exact hlt
      have hEr := HE.out.keep HS.out.below
      have HT := Hid.mk (HTk.out q v op wr hlt HS.out.cut (fun x hx => by have := HS.out.opn x hx; omega) (by have := HS.out.opl; omega) hEr)
      have hup := tok_up (op := op) hql
      have hst := sc_step (op := op) hql
      have hbd := sc_bad (f := l.length) (op := op) hql
      have hob := open_bd (t := tokW l op q) HS.out.opn HS.out.opl
      generalize tokW l op q = t at *
      obtain ⟨kd, pa, fi, tx, er⟩ := t
      have HUP := Hid.mk hup
      have HST := Hid.mk hst
      have HBD := Hid.mk hbd
      have HOB := Hid.mk hob
      clear hup hst hbd hob hEr
      unfold CtP tokV at HT
      dsimp only at HT HUP HST HBD
      have hfew := HS.out.few
      by_cases he : er = 0
      · subst he
        have hfi := (HUP.out rfl).2.1
        have hfl := (HUP.out rfl).2.2
        rw [HL.out] at hfl
        have HIf := Hid.mk (fun u => HId.out fi u hfl)
        have hif := idW_ge (l := l) (p := fi) (by rw [HL.out]; exact hfl)
        rw [HL.out] at hif
        have HREST := Hid.mk (HS.out.rest.trans (by rw [HST.out rfl]))
        generalize openW ⟨kd, pa, fi, tx, 0⟩ op = op2 at *
        generalize idW l fi = q2 at *
        have htb : ∃ tb : ByteArray, (⟨tx.toArray⟩ : ByteArray) = tb := ⟨_, rfl⟩
        obtain ⟨tb, htb⟩ := htb
        rw [htb] at HT
        have HTB := Hid.mk htb
        clear htb HUP HST HBD
        go_wp2_with fail
        refine HT.out.mono ?_
        rintro e w1 ⟨rfl, ⟨v1, hcw⟩, hcl, hbl⟩
        have hro := HS.out.row (v' := v1) hcl
        have hlen := HS.out.len
        have HCW := Hid.mk hcw
        have HBL := Hid.mk (HS.out.below.trans hbl)
        have HOK := Hid.mk HS.out.ok
        have HLN := Hid.mk hlen
        have hbx := below1 w1 (.cells #[.int .i64 (kd : Int), .int .i64 (pa : Int), .int .i64 (fi : Int), .string tb] 23)
        have hxb := heap_alloc_new w1 (.cells #[.int .i64 (kd : Int), .int .i64 (pa : Int), .int .i64 (fi : Int), .string tb] 23)
        clear hcw hcl hbl hlen HT
        go_upto_region 8 with fail
        obtain ⟨W2, hW2⟩ : ∃ W2, w1.alloc (.cells #[.int .i64 (kd : Int), .int .i64 (pa : Int), .int .i64 (fi : Int), .string tb] 23) = W2 := ⟨_, rfl⟩
        rw [hW2] at hbx hxb ⊢
        have hro2 := below_row hbx hro
        have HC2 := Hid.mk (HCW.out.keep hbx)
        have HB2 := Hid.mk (HBL.out.trans (hbx.mono HBL.out.size))
        obtain ⟨xc0, xc1, xc2, xc3, xf0, xf1, xf2, xf3⟩ := tbox_cells hxb
        have HXB := Hid.mk hxb
        have hsz2 := HB2.out.size
        have hxl := (Array.getElem?_eq_some_iff.1 hxb).1
        have HRL : Hid (∀ g, (Value.slice so n sc).ownBlock = some g → g < w1.heap.size) := own_ltT hro
        clear hW2 hbx hxb hro
        go_wp2_with (at_builtin; go_loud (refine wpList_append_own _ rfl _ _ 24 rfl w.heap.size 23 i0 (.agg #[.int .i64 0, .int .i64 0, .int .i64 0, .string ⟨#[]⟩]) 4 40 Tryd.underlying24 hi0 hz0 hz1 hz2 rfl (by decide) _ _ _ rfl (hro2.alloc _) ⟨W2.heap.size, 0, none⟩ 1 1 [.int .i64 (kd : Int), .int .i64 (pa : Int), .int .i64 (fi : Int), .string tb] rfl rfl (new4 (heap_alloc_new W2 _)) (by intro u hu; simp at hu; rcases hu with rfl | rfl | rfl | rfl <;> rfl) (by unfold maxLen; omega) (by omega) (by simp; omega) ?_))
        intro v' w5 hown' hgrow _
        obtain ⟨g', cap', rfl⟩ := ownsRow_succ hown'
        have hX5 := (hgrow.block w1.heap.size (by simp; omega) (fun e => absurd (HRL.out _ e.symm) (Nat.lt_irrefl _))).trans ((Below.heap_alloc _ _ _ hxl).trans HXB.out)
        obtain ⟨yc0, yc1, yc2, yc3, _⟩ := tbox_cells hX5
        have HC5 := Hid.mk (HC2.out.grown hro2 hgrow)
        have HB5 : Hid (Below w.heap.size w w5) := (HB2.out.alloc hsz2 _).grown hgrow (by simp; omega) (fun r e => own_baseW hro2 r e)
        have HO5 := Hid.mk hown'
        clear hX5 hown' hgrow hro2 xc0 xc1 xc2 xc3 xf0 xf1 xf2 xf3 HS
        go_wp2_with fail
        refine (HIf.out _).mono ?_
        rintro e wq ⟨rfl, hwq⟩
        obtain rfl := hwq.symm
        go_wp2_with fail
        go_roundw
        case rel =>
          refine ⟨q2, n + 1, some ⟨g', 0, none⟩, cap', v1, pre ++ [⟨kd, pa, fi, tx, 0⟩], op2, hif.2, by first | rfl | go_num, by first | rfl | go_num, ⟨by rw [List.length_append, HLN.out]; rfl, ?_, HC5.out, HB5.out, by rw [HREST.out, List.append_assoc]; rfl, ?_, by omega, fun x hx => by have := HOB.out.1 x hx; omega, by have := HOB.out.2; omega⟩⟩
          · rw [flT_snoc]
            dsimp only
            rw [HTB.out]
            exact HO5.out
          · intro t ht
            rcases List.mem_append.1 ht with h | h
            · exact HOK.out t h
            · rw [List.mem_singleton.1 h]
        case measure => simp [intOf]; omega
      · have heb : (((er : Nat) : Int) == 0) = false := by rw [beq_eq_false_iff_ne]; omega
        have hne : ¬ ((er : Nat) : Int) = 0 := by omega
        have HREST := Hid.mk (HS.out.rest.trans (by rw [HBD.out he]))
        have hmx : Tryd.prog.follows .mixedOrders = true := by kernel_rfl
        have htb : ∃ tb : ByteArray, (⟨tx.toArray⟩ : ByteArray) = tb := ⟨_, rfl⟩
        obtain ⟨tb, htb⟩ := htb
        rw [htb] at HT
        clear htb HUP HST HBD HOB
        go_wp2_with fail
        refine HT.out.mono ?_
        rintro e w1 ⟨rfl, _, _, hbl⟩
        have HBL := Hid.mk (HS.out.below.trans hbl)
        have hbx := below1 w1 (.cells #[.int .i64 (kd : Int), .int .i64 (pa : Int), .int .i64 (fi : Int), .string tb] 23)
        have hxb := heap_alloc_new w1 (.cells #[.int .i64 (kd : Int), .int .i64 (pa : Int), .int .i64 (fi : Int), .string tb] 23)
        clear hbl HT
        go_upto_region 7 with fail
        obtain ⟨W2, hW2⟩ : ∃ W2, w1.alloc (.cells #[.int .i64 (kd : Int), .int .i64 (pa : Int), .int .i64 (fi : Int), .string tb] 23) = W2 := ⟨_, rfl⟩
        rw [hW2] at hbx hxb ⊢
        have HB2 := Hid.mk (HBL.out.trans (hbx.mono HBL.out.size))
        obtain ⟨xc0, xc1, xc2, xc3, _⟩ := tbox_cells hxb
        clear hW2 hbx hxb
        go_quiet (fail)
        have HB3 := Hid.mk (belowN HB2.out nq)
        generalize W2.drewN nq = W3 at *
        go_wp2_with fail
        (try simp only [Exit.inBlock, Exit.then])
        refine bodyPost_ret (v := .tuple #[.slice none 0 0, .int .i64 (er : Int), .int .i64 (pa : Int)]) (by simp [results, Tryd.results9, go_sem]) rfl ?_
        exact ⟨.inr ⟨pre, ⟨kd, pa, fi, tx, er⟩, HREST.out, he, rfl⟩, HB3.out⟩
    · have hi1 : ¬ (q : Int) < (s.size : Int) := by omega
      have hend := HS.out.rest.trans (by rw [sc_end (f := l.length) (op := op) (p := q) (by rw [HL.out]; exact hlt)])
      obtain ⟨so2, sc2, rfl⟩ := own_shapeT HS.out.cut.row
      have c1 := HS.out.cut.box.c1
      have hopl := HS.out.opl
      by_cases ho : op = []
      · rw [if_pos ho, List.append_nil] at hend
        subst ho
        have HEND := Hid.mk hend
        have c1 : wr.cell? ⟨w.heap.size, 1, none⟩ = some (.slice so2 0 sc2) := c1
        have HFIN : Hid (ScR l w wr (.returned (.tuple #[.slice so n sc, .int .i64 0, .int .i64 0]))) := by
          refine ⟨.inl ⟨by rw [hend]; exact HS.out.ok, so, sc, ?_, ?_⟩, HS.out.below⟩
          · rw [hend, HS.out.len]
          · rw [hend, HS.out.len]; exact HS.out.own
        clear hend
        go_wp2_with fail
        (try simp only [Exit.inBlock, Exit.then])
        refine bodyPost_ret (v := .tuple #[.slice so n sc, .int .i64 0, .int .i64 0]) (by simp [results, Tryd.results9, go_sem]) rfl ?_
        exact HFIN.out
      · rw [if_neg ho] at hend
        have hpos := List.length_pos_iff.2 ho
        generalize op.length = m at *
        have hm1 : (0 : Int) < (m : Int) := by omega
        have HFIN : Hid (ScR l w wr (.returned (.tuple #[.slice none 0 0, .int .i64 21, .int .i64 (s.size : Int)]))) := by
          refine ⟨.inr ⟨pre, _, hend, by show (21 : Nat) ≠ 0; decide, ?_⟩, HS.out.below⟩
          show _ = Ending.returned (.tuple #[.slice none 0 0, .int .i64 ((21 : Nat) : Int), .int .i64 ((l.length : Nat) : Int)])
          rw [HL.out]; rfl
        clear hend HS
        go_wp2_with fail
        (try simp only [Exit.inBlock, Exit.then])
        refine bodyPost_ret (v := .tuple #[.slice none 0 0, .int .i64 21, .int .i64 (s.size : Int)]) (by simp [results, Tryd.results9, go_sem]) rfl ?_
        exact HFIN.out
end Go.Proofs.YtohclfgghobldaaDoor
namespace Go.Proofs.YtohclfgghobldaaDoor
open Go.RowKit Go.Shelf
set_option linter.unusedVariables false
set_option linter.unusedSimpArgs false

set_option maxRecDepth 100000 in
set_option maxHeartbeats 3200000 in
theorem w_is (s : ByteArray) (T : List Tok) (bo : Option Addr) (bc : Nat) (w : World) (ss : s.size ≤ 16777216) (hE : ErrIn w) (hsc : scW s.data.toList = T) (hok : ∀ t ∈ T, t.err = 0) (hr : TRow w bo T) (hbc : T.length ≤ bc) (hln : T.length ≤ 16777216) :
    Calls Tryd.prog 7 #[.string s, .slice bo T.length bc] w fun e w' => e = .returned (.bool true) ∧ Below w.heap.size w w' := by
  have HS : Hid (Calls Tryd.prog 9 #[.string s] w fun e w' => ∃ so sc, e = .returned (.tuple #[.slice so T.length sc, .int .i64 0, .int .i64 0]) ∧ Hid (TRow w' so T ∧ T.length ≤ sc) ∧ Below w.heap.size w w') := by
    refine (w_wScan s w ss hE).mono ?_
    unfold ScR
    rw [hsc]
    rintro e w' ⟨⟨_, so, sc, rfl, hro⟩ | ⟨pre, x, h1, h2, _⟩, hb⟩
    · exact ⟨so, sc, rfl, trow_own hro.out, hb⟩
    · exact absurd (hok x (by rw [h1]; simp)) h2
  have HSm : Hid (∀ (u : World) (so : Option Addr) (sc : Nat), TRow u so T → TRow u bo T → T.length ≤ sc → Calls Tryd.prog 10 #[.slice so T.length sc, .slice bo T.length bc] u fun e w' => e = .returned (.bool true) ∧ Below u.heap.size u w') := fun u so sc h1 h2 h3 => w_SameTokens T so bo sc bc u (by omega) h1 h2 h3 hbc
  have HR := Hid.mk hr
  clear hr hsc hok hE
  generalize hN : T.length = N at *
  clear hN
  go_enter Tryd.func7, Tryd.ntmps7
  go_wp2_with fail
  refine HS.out.mono ?_
  rintro e w1 ⟨so, sc, rfl, HT, hb1⟩
  have HB1 := Hid.mk hb1
  clear hb1
  go_wp2_with fail
  refine (HSm.out _ _ _ HT.out.1 (HR.out.keep HB1.out) HT.out.2).mono ?_
  rintro e w2 ⟨rfl, hb2⟩
  have HB2 := Hid.mk (HB1.out.trans (hb2.mono HB1.out.size))
  clear hb2
  go_wp2_with fail
  go_ret
  exact ⟨rfl, HB2.out⟩

set_option maxRecDepth 100000 in
set_option maxHeartbeats 3200000 in
theorem w_wfails (s : ByteArray) (er pa : Nat) (pre : List Tok) (x : Tok) (w : World) (ss : s.size ≤ 16777216) (hE : ErrIn w) (hall : scW s.data.toList = pre ++ [x]) (he : x.err = er) (hne : er ≠ 0) (hp : x.at_ = pa) :
    Calls Tryd.prog 8 #[.string s, .int .i64 (er : Int), .int .i64 (pa : Int)] w fun e w' => e = .returned (.bool true) ∧ Below w.heap.size w w' := by
  have HS : Hid (Calls Tryd.prog 9 #[.string s] w fun e w' => e = .returned (.tuple #[.slice none 0 0, .int .i64 (er : Int), .int .i64 (pa : Int)]) ∧ Below w.heap.size w w') := by
    refine (w_wScan s w (by omega) hE).mono ?_
    rintro e w' ⟨h | ⟨p2, x2, h1, _, h3⟩, hb⟩
    · exact absurd (h.1 x (by rw [hall]; simp)) (by rw [he]; exact hne)
    · rw [hall] at h1
      have := List.append_inj' h1 rfl
      have hx : x = x2 := by simpa using this.2
      rw [← hx, he, hp] at h3
      exact ⟨h3, hb⟩
  have h1 : (((er : Nat) : Int) == (er : Int)) = true := by simp
  have h2 : (((pa : Nat) : Int) == (pa : Int)) = true := by simp
  clear hall he hp hE
  go_enter Tryd.func8, Tryd.ntmps8
  go_wp2_with fail
  refine HS.out.mono ?_
  rintro e w1 ⟨rfl, hb1⟩
  have HB := Hid.mk hb1
  clear hb1
  go_wp2_with fail
  go_ret
  exact ⟨rfl, HB.out⟩

theorem w_isA (u : World) (hE : ErrIn u) : Calls Tryd.prog 7 #[.string ⟨#[46, 97, 32, 124, 32, 109, 97, 112, 40, 36, 120, 41]⟩, .slice (some ⟨u.heap.size, 0, none⟩) 6 6] (u.alloc (.cells #[.int .i64 4, .int .i64 0, .int .i64 2, .string ⟨#[97]⟩, .int .i64 10, .int .i64 3, .int .i64 4, .string ⟨#[124]⟩, .int .i64 1, .int .i64 5, .int .i64 8, .string ⟨#[109, 97, 112]⟩, .int .i64 10, .int .i64 8, .int .i64 9, .string ⟨#[40]⟩, .int .i64 3, .int .i64 9, .int .i64 11, .string ⟨#[120]⟩, .int .i64 10, .int .i64 11, .int .i64 12, .string ⟨#[41]⟩] 23)) fun e w' => e = .returned (.bool true) ∧ Below u.heap.size u w' := by
  have hb := below1 u (.cells #[.int .i64 4, .int .i64 0, .int .i64 2, .string ⟨#[97]⟩, .int .i64 10, .int .i64 3, .int .i64 4, .string ⟨#[124]⟩, .int .i64 1, .int .i64 5, .int .i64 8, .string ⟨#[109, 97, 112]⟩, .int .i64 10, .int .i64 8, .int .i64 9, .string ⟨#[40]⟩, .int .i64 3, .int .i64 9, .int .i64 11, .string ⟨#[120]⟩, .int .i64 10, .int .i64 11, .int .i64 12, .string ⟨#[41]⟩] 23)
  refine (w_is ⟨#[46, 97, 32, 124, 32, 109, 97, 112, 40, 36, 120, 41]⟩ yA (some ⟨u.heap.size, 0, none⟩) 6 _ (by decide) (hE.keep hb) sc_A (by decide) (trow_block (heap_alloc_new u _) rfl) (by decide) (by decide)).mono ?_
  rintro e w' ⟨h1, h2⟩
  exact ⟨h1, hb.trans (h2.mono hb.size)⟩

theorem w_isB (u : World) (hE : ErrIn u) : Calls Tryd.prog 7 #[.string ⟨#[34, 97, 92, 40, 46, 98, 41, 99, 34]⟩, .slice (some ⟨u.heap.size, 0, none⟩) 3 3] (u.alloc (.cells #[.int .i64 7, .int .i64 0, .int .i64 4, .string ⟨#[97]⟩, .int .i64 4, .int .i64 4, .int .i64 6, .string ⟨#[98]⟩, .int .i64 9, .int .i64 6, .int .i64 9, .string ⟨#[99]⟩] 23)) fun e w' => e = .returned (.bool true) ∧ Below u.heap.size u w' := by
  have hb := below1 u (.cells #[.int .i64 7, .int .i64 0, .int .i64 4, .string ⟨#[97]⟩, .int .i64 4, .int .i64 4, .int .i64 6, .string ⟨#[98]⟩, .int .i64 9, .int .i64 6, .int .i64 9, .string ⟨#[99]⟩] 23)
  refine (w_is ⟨#[34, 97, 92, 40, 46, 98, 41, 99, 34]⟩ yB (some ⟨u.heap.size, 0, none⟩) 3 _ (by decide) (hE.keep hb) sc_B (by decide) (trow_block (heap_alloc_new u _) rfl) (by decide) (by decide)).mono ?_
  rintro e w' ⟨h1, h2⟩
  exact ⟨h1, hb.trans (h2.mono hb.size)⟩

theorem w_isC (u : World) (hE : ErrIn u) : Calls Tryd.prog 7 #[.string ⟨#[34, 92, 40, 40, 49, 41, 41, 92, 40, 50, 41, 34]⟩, .slice (some ⟨u.heap.size, 0, none⟩) 7 7] (u.alloc (.cells #[.int .i64 7, .int .i64 0, .int .i64 3, .string ⟨#[]⟩, .int .i64 10, .int .i64 3, .int .i64 4, .string ⟨#[40]⟩, .int .i64 5, .int .i64 4, .int .i64 5, .string ⟨#[49]⟩, .int .i64 10, .int .i64 5, .int .i64 6, .string ⟨#[41]⟩, .int .i64 8, .int .i64 6, .int .i64 9, .string ⟨#[]⟩, .int .i64 5, .int .i64 9, .int .i64 10, .string ⟨#[50]⟩, .int .i64 9, .int .i64 10, .int .i64 12, .string ⟨#[]⟩] 23)) fun e w' => e = .returned (.bool true) ∧ Below u.heap.size u w' := by
  have hb := below1 u (.cells #[.int .i64 7, .int .i64 0, .int .i64 3, .string ⟨#[]⟩, .int .i64 10, .int .i64 3, .int .i64 4, .string ⟨#[40]⟩, .int .i64 5, .int .i64 4, .int .i64 5, .string ⟨#[49]⟩, .int .i64 10, .int .i64 5, .int .i64 6, .string ⟨#[41]⟩, .int .i64 8, .int .i64 6, .int .i64 9, .string ⟨#[]⟩, .int .i64 5, .int .i64 9, .int .i64 10, .string ⟨#[50]⟩, .int .i64 9, .int .i64 10, .int .i64 12, .string ⟨#[]⟩] 23)
  refine (w_is ⟨#[34, 92, 40, 40, 49, 41, 41, 92, 40, 50, 41, 34]⟩ yC (some ⟨u.heap.size, 0, none⟩) 7 _ (by decide) (hE.keep hb) sc_C (by decide) (trow_block (heap_alloc_new u _) rfl) (by decide) (by decide)).mono ?_
  rintro e w' ⟨h1, h2⟩
  exact ⟨h1, hb.trans (h2.mono hb.size)⟩

theorem w_isD (u : World) (hE : ErrIn u) : Calls Tryd.prog 7 #[.string ⟨#[49, 32, 35, 32, 120]⟩, .slice (some ⟨u.heap.size, 0, none⟩) 1 1] (u.alloc (.cells #[.int .i64 5, .int .i64 0, .int .i64 1, .string ⟨#[49]⟩] 23)) fun e w' => e = .returned (.bool true) ∧ Below u.heap.size u w' := by
  have hb := below1 u (.cells #[.int .i64 5, .int .i64 0, .int .i64 1, .string ⟨#[49]⟩] 23)
  refine (w_is ⟨#[49, 32, 35, 32, 120]⟩ yD (some ⟨u.heap.size, 0, none⟩) 1 _ (by decide) (hE.keep hb) sc_D (by decide) (trow_block (heap_alloc_new u _) rfl) (by decide) (by decide)).mono ?_
  rintro e w' ⟨h1, h2⟩
  exact ⟨h1, hb.trans (h2.mono hb.size)⟩

theorem w_isE (u : World) (hE : ErrIn u) : Calls Tryd.prog 7 #[.string ⟨#[105, 102]⟩, .slice (some ⟨u.heap.size, 0, none⟩) 1 1] (u.alloc (.cells #[.int .i64 2, .int .i64 0, .int .i64 2, .string ⟨#[105, 102]⟩] 23)) fun e w' => e = .returned (.bool true) ∧ Below u.heap.size u w' := by
  have hb := below1 u (.cells #[.int .i64 2, .int .i64 0, .int .i64 2, .string ⟨#[105, 102]⟩] 23)
  refine (w_is ⟨#[105, 102]⟩ yE (some ⟨u.heap.size, 0, none⟩) 1 _ (by decide) (hE.keep hb) sc_E (by decide) (trow_block (heap_alloc_new u _) rfl) (by decide) (by decide)).mono ?_
  rintro e w' ⟨h1, h2⟩
  exact ⟨h1, hb.trans (h2.mono hb.size)⟩

set_option maxRecDepth 100000 in
set_option maxHeartbeats 6400000 in
theorem w_lWordKnown (w : World) (hE : ErrIn w) : Calls Tryd.prog 3 #[] w fun e w' => e = .returned (.bool true) ∧ Below w.heap.size w w' := by
  have HER := Hid.mk hE
  have HA := Hid.mk w_isA
  have HB := Hid.mk w_isB
  have HC := Hid.mk w_isC
  have HD := Hid.mk w_isD
  have HE := Hid.mk w_isE
  have HF : Hid (∀ u, ErrIn u → Calls Tryd.prog 8 #[.string ⟨#[36, 49]⟩, .int .i64 160, .int .i64 0] u fun e w' => e = .returned (.bool true) ∧ Below u.heap.size u w') := fun u h => w_wfails ⟨#[36, 49]⟩ 160 0 _ _ u (by decide) h sc_F rfl (by decide) rfl
  have HG : Hid (∀ u, ErrIn u → Calls Tryd.prog 8 #[.string ⟨#[46, 32, 124, 32, 36, 105, 102]⟩, .int .i64 160, .int .i64 4] u fun e w' => e = .returned (.bool true) ∧ Below u.heap.size u w') := fun u h => w_wfails ⟨#[46, 32, 124, 32, 36, 105, 102]⟩ 160 4 _ _ u (by decide) h sc_G rfl (by decide) rfl
  have HH : Hid (∀ u, ErrIn u → Calls Tryd.prog 8 #[.string ⟨#[49, 46, 53]⟩, .int .i64 42, .int .i64 0] u fun e w' => e = .returned (.bool true) ∧ Below u.heap.size u w') := fun u h => w_wfails ⟨#[49, 46, 53]⟩ 42 0 _ _ u (by decide) h sc_H rfl (by decide) rfl
  have HI : Hid (∀ u, ErrIn u → Calls Tryd.prog 8 #[.string ⟨#[34, 92, 40, 49]⟩, .int .i64 21, .int .i64 4] u fun e w' => e = .returned (.bool true) ∧ Below u.heap.size u w') := fun u h => w_wfails ⟨#[34, 92, 40, 49]⟩ 21 4 _ _ u (by decide) h sc_I rfl (by decide) rfl
  have HJ : Hid (∀ u, ErrIn u → Calls Tryd.prog 8 #[.string ⟨#[34, 92, 113, 34]⟩, .int .i64 23, .int .i64 1] u fun e w' => e = .returned (.bool true) ∧ Below u.heap.size u w') := fun u h => w_wfails ⟨#[34, 92, 113, 34]⟩ 23 1 _ _ u (by decide) h sc_J rfl (by decide) rfl
  have HB0 : Hid (Below w.heap.size w w) := Below.refl _ _
  clear hE
  go_enter Tryd.func3, Tryd.ntmps3
  go_wp2_with fail
  refine (HA.out _ (HER.out.keep HB0.out)).mono ?_
  rintro e w1 ⟨rfl, hb⟩
  have HB1 := Hid.mk (HB0.out.trans (hb.mono HB0.out.size))
  clear hb
  go_wp2_with fail
  refine (HB.out _ (HER.out.keep HB1.out)).mono ?_
  rintro e w2 ⟨rfl, hb⟩
  have HB2 := Hid.mk (HB1.out.trans (hb.mono HB1.out.size))
  clear hb
  go_wp2_with fail
  refine (HC.out _ (HER.out.keep HB2.out)).mono ?_
  rintro e w3 ⟨rfl, hb⟩
  have HB3 := Hid.mk (HB2.out.trans (hb.mono HB2.out.size))
  clear hb
  go_wp2_with fail
  refine (HF.out _ (HER.out.keep HB3.out)).mono ?_
  rintro e w4 ⟨rfl, hb⟩
  have HB4 := Hid.mk (HB3.out.trans (hb.mono HB3.out.size))
  clear hb
  go_wp2_with fail
  refine (HG.out _ (HER.out.keep HB4.out)).mono ?_
  rintro e w5 ⟨rfl, hb⟩
  have HB5 := Hid.mk (HB4.out.trans (hb.mono HB4.out.size))
  clear hb
  go_wp2_with fail
  refine (HH.out _ (HER.out.keep HB5.out)).mono ?_
  rintro e w6 ⟨rfl, hb⟩
  have HB6 := Hid.mk (HB5.out.trans (hb.mono HB5.out.size))
  clear hb
  go_wp2_with fail
  refine (HI.out _ (HER.out.keep HB6.out)).mono ?_
  rintro e w7 ⟨rfl, hb⟩
  have HB7 := Hid.mk (HB6.out.trans (hb.mono HB6.out.size))
  clear hb
  go_wp2_with fail
  refine (HJ.out _ (HER.out.keep HB7.out)).mono ?_
  rintro e w8 ⟨rfl, hb⟩
  have HB8 := Hid.mk (HB7.out.trans (hb.mono HB7.out.size))
  clear hb
  go_wp2_with fail
  refine (HD.out _ (HER.out.keep HB8.out)).mono ?_
  rintro e w9 ⟨rfl, hb⟩
  have HB9 := Hid.mk (HB8.out.trans (hb.mono HB8.out.size))
  clear hb
  go_wp2_with fail
  refine (HE.out _ (HER.out.keep HB9.out)).mono ?_
  rintro e w10 ⟨rfl, hb⟩
  have HB10 := Hid.mk (HB9.out.trans (hb.mono HB9.out.size))
  clear hb
  go_wp2_with fail
  go_ret
  exact ⟨rfl, HB10.out⟩
end Go.Proofs.YtohclfgghobldaaDoor
