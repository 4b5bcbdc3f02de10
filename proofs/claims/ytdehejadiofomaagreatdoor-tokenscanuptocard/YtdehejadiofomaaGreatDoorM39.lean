import Derived.Test.YtdehejadiofomaaGreatDoorM36
import Derived.Test.YtdehejadiofomaaGreatDoorM37
import Derived.Test.YtdehejadiofomaaGreatDoorM38
namespace Go.Proofs.YtdehejadiofomaaGreatDoor
open Go.RowKit Go.Shelf
set_option linter.unusedVariables false
set_option linter.unusedSimpArgs false
attribute [local go_sem] Oper.semAt_some

theorem grown_new {w1 W w5 : World} {base : Nat} {e : TypeId} {size : Nat} {v : Value} {n : Nat} {xs : List Value} {o : Obj} (hrow : w1.ownsRow base e size v n xs) (hg : W.grownBy w5 v.ownBlock) (hb : W.heap[w1.heap.size]? = some o) : w5.heap[w1.heap.size]? = some o := by
  rw [hg.block w1.heap.size (Array.getElem?_eq_some_iff.1 hb).1 ?_]
  · exact hb
  · intro e
    rcases hrow.2 with ⟨rfl, _⟩ | ⟨g', cap, cur, rfl, e2, e3, _⟩
    · cases e
    · simp [Value.ownBlock] at e
      have := (Array.getElem?_eq_some_iff.1 e3).1
      omega

/-- what the reference's Ahead answers -/
def AhR (l : List UInt8) (w w' : World) (e : Ending) : Prop :=
  (((∀ t ∈ allY l, t.err = 0) ∧ ∃ so sc, e = .returned (.tuple #[.slice so (allY l).length sc, .int .i64 0, .int .i64 0]) ∧ Hid (w'.ownsRow w.heap.size 52 4 (.slice so (allY l).length sc) (allY l).length (flT (allY l)))) ∨ (∃ pre x so sc, allY l = pre ++ [x] ∧ x.err ≠ 0 ∧ x = ⟨0, x.at_, 0, [], x.err⟩ ∧ e = .returned (.tuple #[.slice so pre.length sc, .int .i64 (x.err : Int), .int .i64 (x.at_ : Int)]) ∧ Hid (w'.ownsRow w.heap.size 52 4 (.slice so pre.length sc) pre.length (flT pre)))) ∧ Below w.heap.size w w'
/-- while it goes through the text -/
def AhI (l : List UInt8) (w wr : World) (q k : Nat) (v : Value) : Prop := ∃ pre : List Tok, pre.length = k ∧ AhS l q pre ∧ Below w.heap.size w wr ∧ wr.ownsRow w.heap.size 52 4 v k (flT pre)
theorem AhI.le {l : List UInt8} {w wr : World} {q k : Nat} {v : Value} (h : AhI l w wr q k v) : k ≤ l.length := by
  obtain ⟨pre, rfl, h1, _⟩ := h
  exact ahs_len h1

set_option maxRecDepth 100000 in
set_option maxHeartbeats 3200000 in
theorem w_rAhead (s : ByteArray) (w : World) (hs : s.size ≤ 1048576) :
    Calls Tryz.prog 10 #[.string s] w fun e w' => AhR s.data.toList w w' e := by
  obtain ⟨i0, hi0, hz0, hz1, hz2⟩ := info_parts Tryz.infoTok
  have HN := Hid.mk (fun q u (h : q < s.size) => w_rNext s q u h hs)
  have HBk : Hid (∀ q u (h : q < s.size), Calls Tryz.prog 32 #[.int .u8 ((s[q].toNat : Nat) : Int)] u fun e w' => e = .returned (.bool (cBl.contains (s.data.toList.getD q 0))) ∧ w' = u) := fun q u h => by rw [getD_byte h]; exact w_rBlank s[q] u
  obtain ⟨l, hl⟩ : ∃ l, l = s.data.toList := ⟨_, rfl⟩
  have HL : Hid (l.length = s.size) := by show _ = _; rw [hl]; exact size_lst s
  rw [← hl] at HN HBk ⊢
  clear hl
  refine (callsIn_wide (n := 7)).1 ?_
  refine callsIn_of_wp Tryz.func10 rfl trivial ?_ rfl
  simp only [Tryz.ntmps10, List.size_toArray, List.length_cons, List.length_nil, Nat.reduceAdd, Nat.reduceSub, Array.replicate_succ, Array.replicate_zero, List.push_toArray, List.append_toArray, List.nil_append, List.cons_append]
  gi_wp2_with fail
  gi_loopw [5, 6] (fun v a wr => ∃ (q k : Nat) (so : Option Addr) (sc : Nat), q ≤ s.size ∧ v = .slice so k sc ∧ a = .int .i64 (q : Int) ∧ w.heap.size ≤ wr.heap.size ∧ Hid (AhI l w wr q k (.slice so k sc))) (fun _ a _ => s.size - (intOf a).toNat)
  case atStart => exact ⟨0, 0, none, 0, Nat.zero_le _, rfl, rfl, Nat.le_refl _, [], rfl, AhS.start l, Below.refl _ _, World.ownsRow_nil _ _ _ _⟩
  case round =>
    obtain ⟨q, k, so, sc, hq, rfl, rfl, hws, HQ⟩ := hrel
    have hkl := HQ.out.le
    rw [HL.out] at hkl
    by_cases hlt : q < s.size
    · have hi1 : (q : Int) < (s.size : Int) := by omega
      have hi0' : (0 : Int) ≤ (q : Int) := by omega
      have HLt : Hid (q < l.length) := by show _ < _; rw [HL.out]; exact hlt
      have hbk := fun u => HBk.out q u hlt
      have hnx := fun u => HN.out q u hlt
      cases hbl : cBl.contains (l.getD q 0) with
      | true =>
        rw [hbl] at hbk
        have HB := Hid.mk hbk
        have HA : Hid (AhI l w wr (q + 1) k (.slice so k sc)) := by
          obtain ⟨pre, h1, h2, h3⟩ := HQ.out
          exact ⟨pre, h1, h2.blank HLt.out hbl, h3⟩
        clear hbk hnx hbl
        gi_wp2_with fail
        refine ⟨trivial, (callsIn_wide.2 (HB.out _)).mono ?_⟩
        rintro e w1 ⟨rfl, rfl⟩
        gi_wp2_with fail
        go_roundw
        case rel => exact ⟨q + 1, k, so, sc, by omega, rfl, by go_num, hws, HA⟩
        case measure => simp [intOf]; omega
      | false =>
        rw [hbl] at hbk
        have HB := Hid.mk hbk
        have HNX := Hid.mk hnx
        have HBL := Hid.mk hbl
        clear hbk hnx hbl
        gi_wp2_with fail
        refine ⟨trivial, (callsIn_wide.2 (HB.out _)).mono ?_⟩
        rintro e w1 ⟨rfl, rfl⟩
        gi_wp2_with fail
        refine ⟨trivial, (callsIn_wide.2 (HNX.out _)).mono ?_⟩
        rintro e w1 ⟨⟨he, rfl⟩ | ⟨he, rfl⟩, hb1⟩
        · have hsz1 := hb1.size
          obtain ⟨pre, hp1, hp2, hp3, hp4⟩ := HQ.out
          obtain ⟨hup, hp5⟩ := hp2.tok HLt.out HBL.out he
          have hfin := hp5.1
          rw [HL.out] at hfin
          have hrow := below_row hb1 hp4
          have hbw := hp3.trans (hb1.mono hws)
          have HT : Hid (flT (pre ++ [nextT l q]) = flT pre ++ [.int .i64 ((nextT l q).kind : Int), .int .i64 ((nextT l q).at_ : Int), .int .i64 ((nextT l q).fin : Int), .string ⟨(nextT l q).text.toArray⟩]) := flT_snoc _ _
          have HP5 := Hid.mk hp5
          have HP1 := Hid.mk hp1
          have HBW := Hid.mk hbw
          unfold tokV
          clear hp5 hp2 hp3 hp4 hb1 he hp1 hbw
          generalize nextT l q = t at *
          obtain ⟨kd, pa, fi, tx, er⟩ := t
          dsimp only at HT hup hfin ⊢
          gi_wp2_with (gi_at_builtin; go_loud (refine wpListIn_append_own_at _ rfl _ _ 22 rfl w.heap.size 52 i0 (.agg #[.int .i64 0, .int .i64 0, .int .i64 0, .string ⟨#[]⟩]) 4 40 Tryz.underlying22 hi0 hz0 hz1 hz2 rfl (by decide) _ _ _ rfl ((hrow.alloc _).alloc _) ⟨w1.heap.size + 1, 0, none⟩ 1 1 [.int .i64 (kd : Int), .int .i64 (pa : Int), .int .i64 (fi : Int), .string ⟨tx.toArray⟩] rfl rfl (new4 (t := 52) (by rw [show w1.heap.size + 1 = (w1.alloc (.cells #[.int .i64 (kd : Int), .int .i64 (pa : Int), .int .i64 (fi : Int), .string ⟨tx.toArray⟩] 52)).heap.size from by simp]; exact heap_alloc_new _ _)) (by intro u hu; simp at hu; rcases hu with rfl | rfl | rfl | rfl <;> rfl) (by unfold maxLen; omega) (by omega) (by simp; omega) ?_; intro v' w5 hown' hgrow _ _; obtain ⟨g', cap', rfl⟩ := ownsRow_succ hown'; have hgs := hgrow.size; simp at hgs; have hbox := grown_new hrow hgrow ((Below.heap_alloc _ _ _ (by simp)).trans (heap_alloc_new w1 _)); obtain ⟨_, _, hcf, _⟩ := tbox_cells hbox; have HW5 : Hid (AhI l w w5 fi (k + 1) (.slice (some ⟨g', 0, none⟩) (k + 1) cap')) := ⟨_, by rw [List.length_append, HP1.out]; rfl, HP5.out, ((HBW.out.alloc (by omega) _).alloc (by simp; omega) _).grown hgrow (by simp; omega) (fun r e => own_baseT hrow e), by rw [HT.out]; exact hown'⟩; clear hown' hgrow hbox))
          go_roundw
          case rel => exact ⟨fi, k + 1, _, _, hfin, rfl, by go_num, by omega, HW5⟩
          case measure => simp [intOf]; omega
        · have heb : ((((nextT l q).err : Nat) : Int) == 0) = false := by rw [beq_eq_false_iff_ne]; omega
          have HFIN : Hid (∃ pre x, allY l = pre ++ [x] ∧ x.err ≠ 0 ∧ x = ⟨0, x.at_, 0, [], x.err⟩ ∧ pre.length = k ∧ x.err = (nextT l q).err ∧ x.at_ = (nextT l q).at_ ∧ w1.ownsRow w.heap.size 52 4 (.slice so k sc) k (flT pre) ∧ Below w.heap.size w w1) := by
            obtain ⟨pre, hp1, hp2, hp3, hp4⟩ := HQ.out
            exact ⟨pre, nextT l q, hp2.bad HLt.out HBL.out he, he, nextT_bad he, hp1, rfl, rfl, below_row hb1 hp4, hp3.trans (hb1.mono hws)⟩
          clear hb1 he
          generalize (nextT l q).err = er at *
          generalize (nextT l q).at_ = pa at *
          gi_wp2_with fail
          (try simp only [Exit.inBlock, Exit.then])
          refine bodyPost_ret (v := .tuple #[.slice so k sc, .int .i64 (er : Int), .int .i64 (pa : Int)]) (by simp [results, Tryz.results10, go_sem]) rfl ?_
          obtain ⟨pre, x, h1, h2, h3, rfl, rfl, rfl, h7, h8⟩ := HFIN.out
          exact ⟨.inr ⟨pre, x, so, sc, h1, h2, h3, rfl, h7.alloc _⟩, h8.alloc h8.size _⟩
    · have hi1 : ¬ (q : Int) < (s.size : Int) := by omega
      gi_wp2_with fail
      (try simp only [Exit.inBlock, Exit.then])
      refine bodyPost_ret (v := .tuple #[.slice so k sc, .int .i64 0, .int .i64 0]) (by simp [results, Tryz.results10, go_sem]) rfl ?_
      obtain ⟨pre, rfl, hp2, hp3, hp4⟩ := HQ.out
      have hall := hp2.done (by rw [HL.out]; exact hlt)
      refine ⟨.inl ⟨?_, so, sc, ?_, ?_⟩, hp3⟩
      · rw [hall]; exact hp2.2.1
      · rw [hall]
      · rw [hall]; exact hp4
end Go.Proofs.YtdehejadiofomaaGreatDoor
